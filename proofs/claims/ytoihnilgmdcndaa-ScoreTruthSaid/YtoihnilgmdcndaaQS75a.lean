/- A row appended onto an empty one. An append among the operations of a drawn region. The reference's Copy, the law's own once more: three rows of one's own, in three blocks (chapter 2). (Made by gen_s49.py.) Sheet.blank: a valid blank by bytes (chapter 2). (Made by gen_s47.py.) Sheet.calipers, down, up, around, limited, micros (chapter 2). (Made by gen_s48.py.) The law's around and limited. Chapter 2: blanks of four panels and two flaps of each kind; own of them; a sheet's blank. A sheet; a wish around a blank (chapter 2, without memory). The law's ints: a row of one's own. twin, and Sheet.wished (chapter 2). (Made by gen_s61.py.) Close and Calipers of a blank of four panels (chapter 2). wp_region_facts, with variables that lie in blocks of their own: no other value leads to them, though a value may lead to another's blocks. The twin of a sheet's blank, in letters; what its value leads to (chapter 2). score's search finds the smallest blank, and one that closes (chapter 2, without memory). A region that draws its order, with a chain of four operations on one row (made, then appended to three times) and one more row of its own. An append onto a row of one's own, of ints; ints, whose row may be appended to (chapter 2). compared: two blanks by their numbers (chapter 2). (Made by gen_s69.py.) The smallest blank in letters: it closes, and is not greater than any that does (chapter 2, without memory). A wish around a blank: with all calipers each check holds (chapter 2, without memory). Inner, micros and own of a blank of four panels (chapter 2). -/
import Derived.Test.YtoihnilgmdcndaaQS32d
import Derived.Test.YtoihnilgmdcndaaQS32a
import Derived.Test.YtoihnilgmdcndaaQS32c
import Derived.Test.YtoihnilgmdcndaaQS32b
import Derived.Deep.AppendLies
import Derived.BigQuiet
namespace Go.Proofs.Ytoihnilgmdcndaa
set_option linter.unusedVariables false
set_option linter.unusedSimpArgs false
open Go.RowKit

end Go.Proofs.Ytoihnilgmdcndaa

namespace Go.Proofs.Ytoihnilgmdcndaa
set_option linter.unusedVariables false
set_option linter.unusedSimpArgs false
open Go.RowKit

/-- An append among the operations of a drawn region. -/
theorem wpOp_append {P : Program} {ops : Array Oper} {Q : Exit → Act → World → Prop} {i : Nat} {K : Act → World → Prop} {a : Act} {w : World} {o : Oper} (s x : Operand) (t : TypeId) (ho : ops[i]? = some o) (hg : o.guard = none)
    (hop : o.op = Op.call { callee := Callee.builtin Builtin.append, args := #[s, x], argTypes := #[t, t] }) (v1 v2 u : Value) (w' : World) (hs : a.eval s = v1) (hx : a.eval x = v2)
    (hrun : (Builtin.append_ #[t, t] o.type #[v1, v2]).run P w = .ok u w') (h : ∀ K' : Act → World → Prop, (∀ a w, K a w → K' a w) → K' (a.put o.dst u) w') : wpOp P ops Q i K a w := by
  refine wpOp_step ho (fun K' hK' => ?_)
  have hw : Region.wanted o (yielded ops a.tmps) = true := by simp [Region.wanted, hg]
  rw [if_pos hw]
  unfold Oper.wp execOp
  simp only [hop, resolve, invoke, builtin, Sem.run_bind, Sem.run_pure, Result.andThen_ok, List.map_toArray, List.map_cons, List.map_nil, hs, hx, hrun]
  exact h K' hK'

end Go.Proofs.Ytoihnilgmdcndaa

namespace Go.Proofs.Ytoihnilgmdcndaa
set_option linter.unusedVariables false
set_option linter.unusedSimpArgs false
open Go.RowKit

theorem Own.part {w : World} {b : Nat} {vs us : List Value} (h : Own w b (vs ++ us)) : Own w b vs := by
 refine ⟨⟨h.1.1, fun i v hv => h.1.2 i v ?_⟩, h.2⟩
 have hi : i < vs.length := (List.getElem?_eq_some_iff.1 hv).1
 rw [List.getElem?_append_left hi]
 exact hv

theorem Own.row {w : World} {b : Nat} {l : List Int} (h : Own w b (l.map (fun n => Value.int .i64 n))) (hl : l.length ≤ 9223372036854775807) : IRow w (some ⟨b, 0, none⟩) l := by
 refine ⟨hl, fun j x hx => ⟨b, 0, rfl, h.1.1, fun i u hu => ?_⟩⟩
 cases i with
 | succ i => simp [encI] at hu
 | zero =>
  simp only [encI, List.getElem?_cons_zero, Option.some.injEq] at hu
  subst hu
  have := h.1.2 j (.int .i64 x) (by rw [List.getElem?_map, hx]; rfl)
  simpa using this

theorem app_own (v : World) (b : Nat) (a : Option Addr) (l : List Int) (c : Nat) (hr : IRow v a l) (h0 : 0 < l.length) (hl : l.length ≤ 1000) :
  ∃ v' c', (Builtin.append_ #[22, 22] 22 #[.slice (some ⟨b, 0, none⟩) 0 0, .slice a l.length c]).run Try.prog v = .ok (.slice (some ⟨v.heap.size, 0, none⟩) l.length c') v' ∧ Gr v v' ∧ Own v' v.heap.size (l.map (fun n => Value.int .i64 n)) := by
 obtain ⟨i, hi, hz, hs, hb⟩ := info_parts infoIntS
 have ht := Try.underlying22
 obtain ⟨B, O, rfl, _⟩ := hr.addr h0
 have hn : (l.map fun n => Value.int .i64 n).length = l.length * i.size := by rw [hs]; simp
 have hcell : ∀ j u, (l.map fun n => Value.int .i64 n)[j]? = some u → v.cell? ((⟨B, O, none⟩ : Addr).add j) = some u := by
  intro j u hu
  rw [List.getElem?_map] at hu
  cases hx : l[j]? with
  | none => rw [hx] at hu; cases hu
  | some x =>
   rw [hx] at hu
   cases hu
   obtain ⟨_, _, e, _, hc⟩ := IRow.get hr hx
   cases e
   rw [Addr.add_lit]
   exact hc
 have h := run_append_grow (P := Try.prog) v 22 22 3 i _ ht hi hz ⟨b, 0, none⟩ 0 0 [] (by simp) (by simp) ⟨B, O, none⟩ l.length c (l.map fun n => Value.int .i64 n) hn hcell (by omega) (by omega) (growslice_fits (by omega) (by rw [hb]; omega))
 refine ⟨_, grownCap v (0 + l.length) 0 3, by rw [Nat.zero_add] at h ⊢; exact h, (Gr.dr v).tr (Gr.al _ _), ?_⟩
 have ho := Own.new v.drew ((l.map fun n => Value.int .i64 n) ++ (Builtin.zeroCells (Value.int .i64 0).cells (grownCap v (0 + l.length) 0 3 - (0 + l.length))).toList) 3 v.heap.size (by simp)
 have ho2 := Own.part ho
 have e : ∀ (A : List Value) (B : Array Value), (A ++ B.toList).toArray = A.toArray ++ B := fun A B => by apply Array.ext'; simp
 rw [e] at ho2
 simpa using ho2

def OwnPost (tab hei slo : Int) (pan top bot : List Int) (opn : Bool) (w : World) (e : Ending) (w' : World) : Prop :=
 ∃ r3 c3 r7 c7 r11 c11, e = .returned (.agg #[.int .i64 tab, .slice (some ⟨r3, 0, none⟩) pan.length c3, .int .i64 hei, .slice (some ⟨r7, 0, none⟩) top.length c7, .slice (some ⟨r11, 0, none⟩) bot.length c11, .int .i64 slo, .bool opn]) ∧ Gr w w' ∧ Own w' r3 (pan.map (fun n => Value.int .i64 n)) ∧ Own w' r7 (top.map (fun n => Value.int .i64 n)) ∧ Own w' r11 (bot.map (fun n => Value.int .i64 n)) ∧ (w.heap.size ≤ r3 ∧ w.heap.size ≤ r7 ∧ w.heap.size ≤ r11) ∧ r3 ≠ r7 ∧ r3 ≠ r11 ∧ r7 ≠ r11

set_option maxRecDepth 100000 in
set_option maxHeartbeats 4000000 in
theorem copy02_own (tab hei slo : Int) (pan top bot : List Int) (pa ta ba : Option Addr) (pc tc bc : Nat) (opn : Bool) (l1 : 0 < pan.length ∧ pan.length ≤ 1000) (l2 : 0 < top.length ∧ top.length ≤ 1000) (l3 : 0 < bot.length ∧ bot.length ≤ 1000) (w : World) (hp : IRow w pa pan) (ht : IRow w ta top) (hb : IRow w ba bot) :
  Calls Try.prog 62 #[.agg #[.int .i64 tab, .slice pa pan.length pc, .int .i64 hei, .slice ta top.length tc, .slice ba bot.length bc, .int .i64 slo, .bool opn]] w (OwnPost tab hei slo pan top bot opn w) := by
 have gg := (Gr.al w (.cells #[.int .i64 tab, .slice pa pan.length pc, .int .i64 hei, .slice ta top.length tc, .slice ba bot.length bc, .int .i64 slo, .bool opn] 24)).tr (Gr.al _ (.cells #[.int .i64 0, .slice none 0 0, .int .i64 0, .slice none 0 0, .slice none 0 0, .int .i64 0, .bool false] 24))
 have oB := (Own.new w [.int .i64 tab, .slice pa pan.length pc, .int .i64 hei, .slice ta top.length tc, .slice ba bot.length bc, .int .i64 slo, .bool opn] 24 w.heap.size rfl).keep (Gr.al _ (.cells #[.int .i64 0, .slice none 0 0, .int .i64 0, .slice none 0 0, .slice none 0 0, .int .i64 0, .bool false] 24))
 have oZ := Own.new (w.alloc (.cells #[.int .i64 tab, .slice pa pan.length pc, .int .i64 hei, .slice ta top.length tc, .slice ba bot.length bc, .int .i64 slo, .bool opn] 24)) [.int .i64 0, .slice none 0 0, .int .i64 0, .slice none 0 0, .slice none 0 0, .int .i64 0, .bool false] 24 (w.heap.size + 1) (by simp)
 have HP := Lib.hid hp
 have HT := Lib.hid ht
 have HB := Lib.hid hb
 have HL := Lib.hid (And.intro l1 (And.intro l2 l3))
 clear hp ht hb l1 l2 l3
 have hle : w.heap.size ≤ w.heap.size := Nat.le_refl _
 go_enter Try.func62, Try.ntmps62
 go_upto_region 1 with fail
 refine wp_abs (fun U => Gr w U ∧ Own U w.heap.size [.int .i64 tab, .slice pa pan.length pc, .int .i64 hei, .slice ta top.length tc, .slice ba bot.length bc, .int .i64 slo, .bool opn] ∧ Own U (w.heap.size + 1) [.int .i64 0, .slice none 0 0, .int .i64 0, .slice none 0 0, .slice none 0 0, .int .i64 0, .bool false]) ⟨gg, oB, oZ⟩ ?_
 clear gg oB oZ
 rintro U ⟨gU, oB, oZ⟩
 obtain ⟨N, hN⟩ : ∃ N, U.heap.size = N := ⟨_, rfl⟩
 have hB := oB.1
 have lN : w.heap.size + 1 < N := hN ▸ oZ.1.1
 have HN := Lib.hid hN
 clear hN
 refine wp_region_apart 13 [(2, 1), (3, 0), (3, 2), (6, 5), (7, 4), (7, 6), (10, 9), (11, 8), (11, 10)] [3, 7, 11] (fun x => ⟨#[.agg #[.int .i64 tab, .slice pa pan.length pc, .int .i64 hei, .slice ta top.length tc, .slice ba bot.length bc, .int .i64 slo, .bool opn], .pointer (some ⟨w.heap.size, 0, none⟩), .pointer (some ⟨(w.heap.size + 1), 0, none⟩), x 0, x 1, x 2, x 3, x 4, x 5, x 6, x 7, x 8, x 9, x 10, x 11, x 12, undef, undef, undef], []⟩) (fun _ => undef) [fun v x => ∃ b, x = .slice (some ⟨b, 0, none⟩) 0 0, fun _ x => x = .pointer (some ⟨w.heap.size, 1, none⟩), fun _ x => x = .slice pa pan.length pc, fun v x => ∃ r c, x = .slice (some ⟨r, 0, none⟩) pan.length c ∧ Own v r (pan.map (fun n => Value.int .i64 n)) ∧ N ≤ r, fun v x => ∃ b, x = .slice (some ⟨b, 0, none⟩) 0 0, fun _ x => x = .pointer (some ⟨w.heap.size, 3, none⟩), fun _ x => x = .slice ta top.length tc, fun v x => ∃ r c, x = .slice (some ⟨r, 0, none⟩) top.length c ∧ Own v r (top.map (fun n => Value.int .i64 n)) ∧ N ≤ r, fun v x => ∃ b, x = .slice (some ⟨b, 0, none⟩) 0 0, fun _ x => x = .pointer (some ⟨w.heap.size, 4, none⟩), fun _ x => x = .slice ba bot.length bc, fun v x => ∃ r c, x = .slice (some ⟨r, 0, none⟩) bot.length c ∧ Own v r (bot.map (fun n => Value.int .i64 n)) ∧ N ≤ r, fun _ x => x = .pointer (some ⟨w.heap.size, 1, none⟩)] (by rfl) (by kernel_rfl) (by kernel_rfl) (by kernel_rfl) (stays_cons ((show Stays (fun v x => ∃ b, x = .slice (some ⟨b, 0, none⟩) 0 0) from fun v v' x g ⟨b, h⟩ => ⟨b, h⟩)) (stays_cons (Stays.eq _) (stays_cons (Stays.eq _) (stays_cons ((show Stays (fun v x => ∃ r c, x = .slice (some ⟨r, 0, none⟩) pan.length c ∧ Own v r (pan.map (fun n => Value.int .i64 n)) ∧ N ≤ r) from fun v v' x g ⟨r, c, h, o, n⟩ => ⟨r, c, h, o.keep g, n⟩)) (stays_cons ((show Stays (fun v x => ∃ b, x = .slice (some ⟨b, 0, none⟩) 0 0) from fun v v' x g ⟨b, h⟩ => ⟨b, h⟩)) (stays_cons (Stays.eq _) (stays_cons (Stays.eq _) (stays_cons ((show Stays (fun v x => ∃ r c, x = .slice (some ⟨r, 0, none⟩) top.length c ∧ Own v r (top.map (fun n => Value.int .i64 n)) ∧ N ≤ r) from fun v v' x g ⟨r, c, h, o, n⟩ => ⟨r, c, h, o.keep g, n⟩)) (stays_cons ((show Stays (fun v x => ∃ b, x = .slice (some ⟨b, 0, none⟩) 0 0) from fun v v' x g ⟨b, h⟩ => ⟨b, h⟩)) (stays_cons (Stays.eq _) (stays_cons (Stays.eq _) (stays_cons ((show Stays (fun v x => ∃ r c, x = .slice (some ⟨r, 0, none⟩) bot.length c ∧ Own v r (bot.map (fun n => Value.int .i64 n)) ∧ N ≤ r) from fun v v' x g ⟨r, c, h, o, n⟩ => ⟨r, c, h, o.keep g, n⟩)) (stays_cons (Stays.eq _) stays_nil))))))))))))) ?step1 ?fin1
 case step1 =>
  rintro i hi x v gv hd K hK
  have hi8 : i = 0 ∨ i = 1 ∨ i = 2 ∨ i = 3 ∨ i = 4 ∨ i = 5 ∨ i = 6 ∨ i = 7 ∨ i = 8 ∨ i = 9 ∨ i = 10 ∨ i = 11 ∨ i = 12 := by omega
  rcases hi8 with rfl | rfl | rfl | rfl | rfl | rfl | rfl | rfl | rfl | rfl | rfl | rfl | rfl
  ·try dsimp only [upd, Nat.reduceBEq, cond_true, cond_false]
   refine wpOp_step rfl (fun K' hK' => ?_)
   go_simp
   have hg := Gr.al v (.cells #[] 3)
   exact hK' _ _ (hK _ _ hg (at_of rfl (⟨_, rfl⟩)) (fun h => absurd h (by simp)))
  ·try dsimp only [upd, Nat.reduceBEq, cond_true, cond_false]
   refine wpOp_step rfl (fun K' hK' => ?_)
   go_simp
   exact hK' _ _ (hK _ _ (Below.refl _ _) (at_of rfl (rfl)) (fun h => absurd h (by simp)))
  ·obtain ⟨x, rfl⟩ := upd_of (show x 1 = .pointer (some ⟨w.heap.size, 1, none⟩) from hd 1 _ (by simp) rfl)
   try dsimp only [upd, Nat.reduceBEq, cond_true, cond_false]
   refine wpOp_step rfl (fun K' hK' => ?_)
   have q := (hB.keep gv).2 1 _ rfl
   go_simp
   exact hK' _ _ (hK _ _ (Below.refl _ _) (at_of rfl (rfl)) (fun h => absurd h (by simp)))
  ·obtain ⟨b0, e0⟩ := hd 0 _ (by simp) rfl
   obtain ⟨x, rfl⟩ := upd_of (show x 0 = .slice (some ⟨b0, 0, none⟩) 0 0 from e0)
   obtain ⟨x, rfl⟩ := upd_of (show x 2 = .slice pa pan.length pc from hd 2 _ (by simp) rfl)
   try dsimp only [upd, Nat.reduceBEq, cond_true, cond_false]
   obtain ⟨v', c', hrun, hg, ho⟩ := app_own v b0 pa pan pc (HP.out.grow (gU.tr gv)) HL.out.1.1 HL.out.1.2
   have hn2 : N ≤ v.heap.size := HN.out ▸ gv.size
   refine wpOp_append (Operand.tmp 3) (Operand.tmp 5) 22 rfl rfl rfl (.slice (some ⟨b0, 0, none⟩) 0 0) (.slice pa pan.length pc) _ v' rfl rfl hrun (fun K' hK' => ?_)
   exact hK' _ _ (hK _ _ hg (at_of rfl (⟨_, _, rfl, ho, hn2⟩)) (fun _ b hb => by simp [hasB, blkOf] at hb; subst hb; exact ⟨Nat.le_refl _, ho.1.1⟩))
  ·try dsimp only [upd, Nat.reduceBEq, cond_true, cond_false]
   refine wpOp_step rfl (fun K' hK' => ?_)
   go_simp
   have hg := Gr.al v (.cells #[] 3)
   exact hK' _ _ (hK _ _ hg (at_of rfl (⟨_, rfl⟩)) (fun h => absurd h (by simp)))
  ·try dsimp only [upd, Nat.reduceBEq, cond_true, cond_false]
   refine wpOp_step rfl (fun K' hK' => ?_)
   go_simp
   exact hK' _ _ (hK _ _ (Below.refl _ _) (at_of rfl (rfl)) (fun h => absurd h (by simp)))
  ·obtain ⟨x, rfl⟩ := upd_of (show x 5 = .pointer (some ⟨w.heap.size, 3, none⟩) from hd 5 _ (by simp) rfl)
   try dsimp only [upd, Nat.reduceBEq, cond_true, cond_false]
   refine wpOp_step rfl (fun K' hK' => ?_)
   have q := (hB.keep gv).2 3 _ rfl
   go_simp
   exact hK' _ _ (hK _ _ (Below.refl _ _) (at_of rfl (rfl)) (fun h => absurd h (by simp)))
  ·obtain ⟨b4, e4⟩ := hd 4 _ (by simp) rfl
   obtain ⟨x, rfl⟩ := upd_of (show x 4 = .slice (some ⟨b4, 0, none⟩) 0 0 from e4)
   obtain ⟨x, rfl⟩ := upd_of (show x 6 = .slice ta top.length tc from hd 6 _ (by simp) rfl)
   try dsimp only [upd, Nat.reduceBEq, cond_true, cond_false]
   obtain ⟨v', c', hrun, hg, ho⟩ := app_own v b4 ta top tc (HT.out.grow (gU.tr gv)) HL.out.2.1.1 HL.out.2.1.2
   have hn2 : N ≤ v.heap.size := HN.out ▸ gv.size
   refine wpOp_append (Operand.tmp 7) (Operand.tmp 9) 22 rfl rfl rfl (.slice (some ⟨b4, 0, none⟩) 0 0) (.slice ta top.length tc) _ v' rfl rfl hrun (fun K' hK' => ?_)
   exact hK' _ _ (hK _ _ hg (at_of rfl (⟨_, _, rfl, ho, hn2⟩)) (fun _ b hb => by simp [hasB, blkOf] at hb; subst hb; exact ⟨Nat.le_refl _, ho.1.1⟩))
  ·try dsimp only [upd, Nat.reduceBEq, cond_true, cond_false]
   refine wpOp_step rfl (fun K' hK' => ?_)
   go_simp
   have hg := Gr.al v (.cells #[] 3)
   exact hK' _ _ (hK _ _ hg (at_of rfl (⟨_, rfl⟩)) (fun h => absurd h (by simp)))
  ·try dsimp only [upd, Nat.reduceBEq, cond_true, cond_false]
   refine wpOp_step rfl (fun K' hK' => ?_)
   go_simp
   exact hK' _ _ (hK _ _ (Below.refl _ _) (at_of rfl (rfl)) (fun h => absurd h (by simp)))
  ·obtain ⟨x, rfl⟩ := upd_of (show x 9 = .pointer (some ⟨w.heap.size, 4, none⟩) from hd 9 _ (by simp) rfl)
   try dsimp only [upd, Nat.reduceBEq, cond_true, cond_false]
   refine wpOp_step rfl (fun K' hK' => ?_)
   have q := (hB.keep gv).2 4 _ rfl
   go_simp
   exact hK' _ _ (hK _ _ (Below.refl _ _) (at_of rfl (rfl)) (fun h => absurd h (by simp)))
  ·obtain ⟨b8, e8⟩ := hd 8 _ (by simp) rfl
   obtain ⟨x, rfl⟩ := upd_of (show x 8 = .slice (some ⟨b8, 0, none⟩) 0 0 from e8)
   obtain ⟨x, rfl⟩ := upd_of (show x 10 = .slice ba bot.length bc from hd 10 _ (by simp) rfl)
   try dsimp only [upd, Nat.reduceBEq, cond_true, cond_false]
   obtain ⟨v', c', hrun, hg, ho⟩ := app_own v b8 ba bot bc (HB.out.grow (gU.tr gv)) HL.out.2.2.1 HL.out.2.2.2
   have hn2 : N ≤ v.heap.size := HN.out ▸ gv.size
   refine wpOp_append (Operand.tmp 11) (Operand.tmp 13) 22 rfl rfl rfl (.slice (some ⟨b8, 0, none⟩) 0 0) (.slice ba bot.length bc) _ v' rfl rfl hrun (fun K' hK' => ?_)
   exact hK' _ _ (hK _ _ hg (at_of rfl (⟨_, _, rfl, ho, hn2⟩)) (fun _ b hb => by simp [hasB, blkOf] at hb; subst hb; exact ⟨Nat.le_refl _, ho.1.1⟩))
  ·try dsimp only [upd, Nat.reduceBEq, cond_true, cond_false]
   refine wpOp_step rfl (fun K' hK' => ?_)
   go_simp
   exact hK' _ _ (hK _ _ (Below.refl _ _) (at_of rfl (rfl)) (fun h => absurd h (by simp)))
 case fin1 =>
  rintro x v gv hd hap
  obtain ⟨r3, c3, e3, o3, n3⟩ := hd 3 _ (by omega) rfl
  obtain ⟨x, rfl⟩ := upd_of (show x 3 = .slice (some ⟨r3, 0, none⟩) pan.length c3 from e3)
  obtain ⟨r7, c7, e7, o7, n7⟩ := hd 7 _ (by omega) rfl
  obtain ⟨x, rfl⟩ := upd_of (show x 7 = .slice (some ⟨r7, 0, none⟩) top.length c7 from e7)
  obtain ⟨r11, c11, e11, o11, n11⟩ := hd 11 _ (by omega) rfl
  obtain ⟨x, rfl⟩ := upd_of (show x 11 = .slice (some ⟨r11, 0, none⟩) bot.length c11 from e11)
  obtain ⟨x, rfl⟩ := upd_of (show x 12 = .pointer (some ⟨w.heap.size, 1, none⟩) from hd 12 _ (by omega) rfl)
  clear hd
  show wpList Try.prog _ _ (List.drop 13 _) (⟨#[_, _, _, x 0, x 1, x 2, .slice (some ⟨r3, 0, none⟩) pan.length c3, x 4, x 5, x 6, .slice (some ⟨r7, 0, none⟩) top.length c7, x 8, x 9, x 10, .slice (some ⟨r11, 0, none⟩) bot.length c11, .pointer (some ⟨w.heap.size, 1, none⟩), _, _, _], []⟩ : Act) v
  simp only [List.drop_succ_cons, List.drop_zero]
  have n37 : r3 ≠ r7 := (fun e => hap 3 7 (by simp) (by simp) (by simp) (by omega) (by omega) r3 (by rw [e3]; simp [hasB, blkOf]) (by rw [e7, ← e]; simp [hasB, blkOf]))
  have n3b : r3 ≠ r11 := (fun e => hap 3 11 (by simp) (by simp) (by simp) (by omega) (by omega) r3 (by rw [e3]; simp [hasB, blkOf]) (by rw [e11, ← e]; simp [hasB, blkOf]))
  have n7b : r7 ≠ r11 := (fun e => hap 7 11 (by simp) (by simp) (by simp) (by omega) (by omega) r7 (by rw [e7]; simp [hasB, blkOf]) (by rw [e11, ← e]; simp [hasB, blkOf]))
  clear hap e3 e7 e11
  replace gU := gU.tr gv
  replace oB := oB.keep gv
  replace oZ := oZ.keep gv
  clear gv hB HP HT HB HN
  have z1 := oB.2 1
  have z3 := oB.2 3
  have z4 := oB.2 4
  have q1 := oB.1.2 1 _ rfl
  have q3 := oB.1.2 3 _ rfl
  have q4 := oB.1.2 4 _ rfl
  go_upto_region 2 with fail
  refine wp_abs (fun V => Gr w V ∧ Own V w.heap.size [.int .i64 tab, .slice (some ⟨r3, 0, none⟩) pan.length c3, .int .i64 hei, .slice (some ⟨r7, 0, none⟩) top.length c7, .slice (some ⟨r11, 0, none⟩) bot.length c11, .int .i64 slo, .bool opn] ∧ Own V (w.heap.size + 1) [.int .i64 0, .slice none 0 0, .int .i64 0, .slice none 0 0, .slice none 0 0, .int .i64 0, .bool false] ∧ Own V r3 (pan.map (fun n => Value.int .i64 n)) ∧ Own V r7 (top.map (fun n => Value.int .i64 n)) ∧ Own V r11 (bot.map (fun n => Value.int .i64 n))) ⟨((gU.setCell (p := ⟨w.heap.size, 1, none⟩) hle _).setCell (p := ⟨w.heap.size, 3, none⟩) hle _).setCell (p := ⟨w.heap.size, 4, none⟩) hle _, ((oB.set (i := 1) (by simp)).set (i := 3) (by simp)).set (i := 4) (by simp), ((oZ.other (by omega)).other (by omega)).other (by omega), ((((o3).other (by omega)).other (by omega)).other (by omega)), ((((o7).other (by omega)).other (by omega)).other (by omega)), ((((o11).other (by omega)).other (by omega)).other (by omega))⟩ ?_
  clear gU oB oZ z1 z3 z4 q1 q3 q4 o3 o7 o11
  rintro V ⟨gV, oB, oZ, o3, o7, o11⟩
  obtain ⟨q0, q1, q2, q3, q4, q5, q6⟩ := oB.1.c7
  have p0 := oZ.1.2 0 _ rfl
  have z0 := oZ.2 0
  have p1 := oZ.1.2 1 _ rfl
  have z1 := oZ.2 1
  have p2 := oZ.1.2 2 _ rfl
  have z2 := oZ.2 2
  have p3 := oZ.1.2 3 _ rfl
  have z3 := oZ.2 3
  have p4 := oZ.1.2 4 _ rfl
  have z4 := oZ.2 4
  have p5 := oZ.1.2 5 _ rfl
  have z5 := oZ.2 5
  have p6 := oZ.1.2 6 _ rfl
  have z6 := oZ.2 6
  have hl1 : w.heap.size ≤ w.heap.size + 1 := Nat.le_succ _
  have m3 : r3 ≠ w.heap.size + 1 := by omega
  have m7 : r7 ≠ w.heap.size + 1 := by omega
  have m11 : r11 ≠ w.heap.size + 1 := by omega
  have le3 : w.heap.size ≤ r3 ∧ w.heap.size ≤ r7 ∧ w.heap.size ≤ r11 := by omega
  clear oB oZ lN n3 n7 n11
  go_wp2
  refine bodyPost_ret (v := .agg #[.int .i64 tab, .slice (some ⟨r3, 0, none⟩) pan.length c3, .int .i64 hei, .slice (some ⟨r7, 0, none⟩) top.length c7, .slice (some ⟨r11, 0, none⟩) bot.length c11, .int .i64 slo, .bool opn]) (by simp [results, Try.results62, go_sem, p0, p1, p2, p3, p4, p5, p6]) rfl ⟨_, _, _, _, _, _, rfl, ?_, ?_, ?_, ?_, le3, n37, n3b, n7b⟩
  ·exact (((((((gV.setCell (p := ⟨w.heap.size + 1, 0, none⟩) hl1 _).setCell (p := ⟨w.heap.size + 1, 1, none⟩) hl1 _).setCell (p := ⟨w.heap.size + 1, 2, none⟩) hl1 _).setCell (p := ⟨w.heap.size + 1, 3, none⟩) hl1 _).setCell (p := ⟨w.heap.size + 1, 4, none⟩) hl1 _).setCell (p := ⟨w.heap.size + 1, 5, none⟩) hl1 _).setCell (p := ⟨w.heap.size + 1, 6, none⟩) hl1 _)
  ·exact (((((((o3.other m3).other m3).other m3).other m3).other m3).other m3).other m3)
  ·exact (((((((o7.other m7).other m7).other m7).other m7).other m7).other m7).other m7)
  ·exact (((((((o11.other m11).other m11).other m11).other m11).other m11).other m11).other m11)

set_option maxRecDepth 100000 in
set_option maxHeartbeats 4000000 in
theorem own02_own (tab hei slo : Int) (pan top bot : List Int) (pa ta ba : Option Addr) (pc tc bc : Nat) (opn : Bool) (l1 : 0 < pan.length ∧ pan.length ≤ 1000) (l2 : 0 < top.length ∧ top.length ≤ 1000) (l3 : 0 < bot.length ∧ bot.length ≤ 1000) (w : World) (hp : IRow w pa pan) (ht : IRow w ta top) (hb : IRow w ba bot) :
  Calls Try.prog 16 #[.agg #[.int .i64 tab, .slice pa pan.length pc, .int .i64 hei, .slice ta top.length tc, .slice ba bot.length bc, .int .i64 slo, .bool opn]] w (OwnPost tab hei slo pan top bot opn w) := by
 have gg := (Gr.al w (.cells #[.int .i64 tab, .slice pa pan.length pc, .int .i64 hei, .slice ta top.length tc, .slice ba bot.length bc, .int .i64 slo, .bool opn] 24)).tr (Gr.al _ (.cells #[.int .i64 0, .slice none 0 0, .int .i64 0, .slice none 0 0, .slice none 0 0, .int .i64 0, .bool false] 24))
 have oB := (Box.new w [.int .i64 tab, .slice pa pan.length pc, .int .i64 hei, .slice ta top.length tc, .slice ba bot.length bc, .int .i64 slo, .bool opn] 24 w.heap.size rfl).keep (Gr.al _ (.cells #[.int .i64 0, .slice none 0 0, .int .i64 0, .slice none 0 0, .slice none 0 0, .int .i64 0, .bool false] 24))
 have oZ := Own.new (w.alloc (.cells #[.int .i64 tab, .slice pa pan.length pc, .int .i64 hei, .slice ta top.length tc, .slice ba bot.length bc, .int .i64 slo, .bool opn] 24)) [.int .i64 0, .slice none 0 0, .int .i64 0, .slice none 0 0, .slice none 0 0, .int .i64 0, .bool false] 24 (w.heap.size + 1) (by simp)
 have HP := Lib.hid hp
 have HT := Lib.hid ht
 have HB := Lib.hid hb
 clear hp ht hb
 have hl1 : w.heap.size ≤ w.heap.size + 1 := Nat.le_succ _
 go_enter Try.func16, Try.ntmps16
 go_upto_region 1 with fail
 refine wp_abs (fun U => Gr w U ∧ Box U w.heap.size [.int .i64 tab, .slice pa pan.length pc, .int .i64 hei, .slice ta top.length tc, .slice ba bot.length bc, .int .i64 slo, .bool opn] ∧ Own U (w.heap.size + 1) [.int .i64 0, .slice none 0 0, .int .i64 0, .slice none 0 0, .slice none 0 0, .int .i64 0, .bool false]) ⟨gg, oB, oZ⟩ ?_
 clear gg oB oZ
 rintro U ⟨gU, oB, oZ⟩
 obtain ⟨b0, b1, b2, b3, b4, b5, b6⟩ := oB.c7
 have hlt : w.heap.size + 1 < U.heap.size := oZ.1.1
 go_wp2_with (go_at_call 62; refine (copy02_own tab hei slo pan top bot pa ta ba pc tc bc opn l1 l2 l3 U (HP.out.grow gU) (HT.out.grow gU) (HB.out.grow gU)).mono ?_; rintro e w1 ⟨r3, c3, r7, c7, r11, c11, rfl, g1, o3, o7, o11, ⟨n3, n7, n11⟩, n37, n3b, n7b⟩; have hsz := gU.size; replace gU := gU.tr g1; replace oZ := oZ.keep g1; clear b0 b1 b2 b3 b4 b5 b6 oB; have m3 : r3 ≠ w.heap.size + 1 := (by omega); have m7 : r7 ≠ w.heap.size + 1 := (by omega); have m11 : r11 ≠ w.heap.size + 1 := (by omega); have le3 : w.heap.size ≤ r3 ∧ w.heap.size ≤ r7 ∧ w.heap.size ≤ r11 := (by omega); have p0 := oZ.1.2 0 _ rfl; have z0 := oZ.2 0; have p1 := oZ.1.2 1 _ rfl; have z1 := oZ.2 1; have p2 := oZ.1.2 2 _ rfl; have z2 := oZ.2 2; have p3 := oZ.1.2 3 _ rfl; have z3 := oZ.2 3; have p4 := oZ.1.2 4 _ rfl; have z4 := oZ.2 4; have p5 := oZ.1.2 5 _ rfl; have z5 := oZ.2 5; have p6 := oZ.1.2 6 _ rfl; have z6 := oZ.2 6; clear hsz n3 n7 n11 hlt oZ)
 refine bodyPost_ret (v := .agg #[.int .i64 tab, .slice (some ⟨r3, 0, none⟩) pan.length c3, .int .i64 hei, .slice (some ⟨r7, 0, none⟩) top.length c7, .slice (some ⟨r11, 0, none⟩) bot.length c11, .int .i64 slo, .bool opn]) (by simp [results, Try.results16, go_sem, p0, p1, p2, p3, p4, p5, p6]) rfl ⟨_, _, _, _, _, _, rfl, ?_, ?_, ?_, ?_, le3, n37, n3b, n7b⟩
 ·exact (((((((gU.setCell (p := ⟨w.heap.size + 1, 0, none⟩) hl1 _).setCell (p := ⟨w.heap.size + 1, 1, none⟩) hl1 _).setCell (p := ⟨w.heap.size + 1, 2, none⟩) hl1 _).setCell (p := ⟨w.heap.size + 1, 3, none⟩) hl1 _).setCell (p := ⟨w.heap.size + 1, 4, none⟩) hl1 _).setCell (p := ⟨w.heap.size + 1, 5, none⟩) hl1 _).setCell (p := ⟨w.heap.size + 1, 6, none⟩) hl1 _)
 ·exact (((((((o3.other m3).other m3).other m3).other m3).other m3).other m3).other m3)
 ·exact (((((((o7.other m7).other m7).other m7).other m7).other m7).other m7).other m7)
 ·exact (((((((o11.other m11).other m11).other m11).other m11).other m11).other m11).other m11)

end Go.Proofs.Ytoihnilgmdcndaa

namespace Go.Proofs.Ytoihnilgmdcndaa
set_option linter.unusedVariables false
set_option linter.unusedSimpArgs false
open Go.RowKit

theorem infoIntT : (Try.prog.info? 3).map (fun i => (i.zero, i.size, i.bytes)) = some (some (.int .i64 0), 1, 8) := by kernel_rfl

def SheetHeld (b i : Nat) (x : Int) (c j : Nat) (v : Value) (w' : World) : Prop := w'.cell? ⟨b, i, none⟩ = some (.int .u8 x) ∧ w'.cell? ⟨c, j, none⟩ = some v

/-- Two rows that do not lie in one block. -/
def ApartS (v u : Value) : Prop := ∀ b, v.ownBlock = some b → u.ownBlock ≠ some b

theorem ApartS.symm {v u : Value} (h : ApartS v u) : ApartS u v := fun b hb hv => h b hv hb

theorem ApartS.after {v u : Value} {g n c H : Nat} (h : ApartS v u) (hg : u.ownBlock = some g ∨ g = H) (hv : ∀ b, v.ownBlock = some b → b < H) : ApartS v (.slice (some ⟨g, 0, none⟩) n c) := by
 intro b hb hc
 simp only [Value.ownBlock, Option.some.injEq] at hc
 subst hc
 rcases hg with hg | rfl
 ·exact h g hb hg
 ·have := hv _ hb
  omega

theorem owns_apartS {w w' : World} {base : Nat} {e : TypeId} {sz : Nat} {u v : Value} {n : Nat} {xs : List Value} (h : w.ownsRow base e sz u n xs) (hg : w.grownBy w' v.ownBlock) (ha : ApartS u v) : w'.ownsRow base e sz u n xs :=
 h.kept hg (by
  cases hub : u.ownBlock with
  | none => exact .inl rfl
  | some b => exact .inr (fun he => ha b hub he.symm))

theorem boxS_kx {Z : Nat → Prop} {w w' : World} {b : Nat} {vs : List Value} (h : Box w b vs) (k : Kx Z w w') (hz : ¬ Z b) : Box w' b vs := by
 refine ⟨Nat.lt_of_lt_of_le h.1 k.size, fun i v hv => ?_⟩
 have h1 := h.2 i v hv
 have e := k.block b h.1 hz
 unfold World.cell? at h1 ⊢
 rw [e]
 exact h1

/-- A byte. -/
abbrev By (n : Int) : Prop := 0 ≤ n ∧ n ≤ 255

def topOf (o : Bool) (f0 f1 : Int) : List Int := if o then [0, 0] else [f0, f1]

def SheetPost (pan top bot : List Int) (h : Int) (o : Bool) (w : World) (e : Ending) (w' : World) : Prop :=
 ∃ a c a' c' a'' c'', e = .returned (.agg #[.int .i64 30, .slice a 4 c, .int .i64 (40 + h), .slice a' 2 c', .slice a'' 2 c'', .int .i64 9, .bool o]) ∧ Gr w w' ∧ IRow w' a pan ∧ IRow w' a' top ∧ IRow w' a'' bot ∧ (NewAt w.heap.size a ∧ NewAt w.heap.size a' ∧ NewAt w.heap.size a'')

set_option maxRecDepth 100000 in
set_option maxHeartbeats 8000000 in
theorem sheetBlank_any (p0 p1 p2 p3 h f0 f1 f2 f3 : Int) (o : Bool) (c0 c1 w0 w1 w2 w3 w4 : Int) (hp0 : By p0) (hp1 : By p1) (hp2 : By p2) (hp3 : By p3) (hh : By h) (hf0 : By f0) (hf1 : By f1) (hf2 : By f2) (hf3 : By f3) (w : World) :
  Calls Try.prog 39 #[.agg #[.int .u8 p0, .int .u8 p1, .int .u8 p2, .int .u8 p3, .int .u8 h, .int .u8 f0, .int .u8 f1, .int .u8 f2, .int .u8 f3, .bool o, .int .u8 c0, .int .u8 c1, .int .u8 w0, .int .u8 w1, .int .u8 w2, .int .u8 w3, .int .u8 w4]] w (SheetPost [60 + p0, 60 + p1, 60 + p2, 60 + p3] (topOf o f0 f1) [f2, f3] h o w) := by
 obtain ⟨i0, hi, hz0, hz1, hz2⟩ := info_parts infoIntT
 have gg := ((Gr.al w (.cells #[.int .u8 p0, .int .u8 p1, .int .u8 p2, .int .u8 p3, .int .u8 h, .int .u8 f0, .int .u8 f1, .int .u8 f2, .int .u8 f3, .bool o, .int .u8 c0, .int .u8 c1, .int .u8 w0, .int .u8 w1, .int .u8 w2, .int .u8 w3, .int .u8 w4] 69)).tr (Gr.al _ (.cells #[.int .i64 0, .slice none 0 0, .int .i64 0, .slice none 0 0, .slice none 0 0, .int .i64 0, .bool false] 24))).tr (Gr.al _ (.cells #[.int .i64 30, .slice none 0 0, .int .i64 (40 + h), .slice none 0 0, .slice none 0 0, .int .i64 9, .bool o] 24))
 have h1 := (Box.new w [.int .u8 p0, .int .u8 p1, .int .u8 p2, .int .u8 p3, .int .u8 h, .int .u8 f0, .int .u8 f1, .int .u8 f2, .int .u8 f3, .bool o, .int .u8 c0, .int .u8 c1, .int .u8 w0, .int .u8 w1, .int .u8 w2, .int .u8 w3, .int .u8 w4] 69 w.heap.size rfl).keep ((Gr.al _ (.cells #[.int .i64 0, .slice none 0 0, .int .i64 0, .slice none 0 0, .slice none 0 0, .int .i64 0, .bool false] 24)).tr (Gr.al _ (.cells #[.int .i64 30, .slice none 0 0, .int .i64 (40 + h), .slice none 0 0, .slice none 0 0, .int .i64 9, .bool o] 24)))
 have h2 := (Own.new (w.alloc (.cells #[.int .u8 p0, .int .u8 p1, .int .u8 p2, .int .u8 p3, .int .u8 h, .int .u8 f0, .int .u8 f1, .int .u8 f2, .int .u8 f3, .bool o, .int .u8 c0, .int .u8 c1, .int .u8 w0, .int .u8 w1, .int .u8 w2, .int .u8 w3, .int .u8 w4] 69)) [.int .i64 0, .slice none 0 0, .int .i64 0, .slice none 0 0, .slice none 0 0, .int .i64 0, .bool false] 24 (w.heap.size + 1) (by simp)).keep (Gr.al _ (.cells #[.int .i64 30, .slice none 0 0, .int .i64 (40 + h), .slice none 0 0, .slice none 0 0, .int .i64 9, .bool o] 24))
 have h3 := Own.new ((w.alloc (.cells #[.int .u8 p0, .int .u8 p1, .int .u8 p2, .int .u8 p3, .int .u8 h, .int .u8 f0, .int .u8 f1, .int .u8 f2, .int .u8 f3, .bool o, .int .u8 c0, .int .u8 c1, .int .u8 w0, .int .u8 w1, .int .u8 w2, .int .u8 w3, .int .u8 w4] 69)).alloc (.cells #[.int .i64 0, .slice none 0 0, .int .i64 0, .slice none 0 0, .slice none 0 0, .int .i64 0, .bool false] 24)) [.int .i64 30, .slice none 0 0, .int .i64 (40 + h), .slice none 0 0, .slice none 0 0, .int .i64 9, .bool o] 24 (w.heap.size + 1 + 1) (by simp)
 have q4 := (Box.new w [.int .u8 p0, .int .u8 p1, .int .u8 p2, .int .u8 p3, .int .u8 h, .int .u8 f0, .int .u8 f1, .int .u8 f2, .int .u8 f3, .bool o, .int .u8 c0, .int .u8 c1, .int .u8 w0, .int .u8 w1, .int .u8 w2, .int .u8 w3, .int .u8 w4] 69 w.heap.size rfl).2 4 _ rfl
 have q9 := (Box.new w [.int .u8 p0, .int .u8 p1, .int .u8 p2, .int .u8 p3, .int .u8 h, .int .u8 f0, .int .u8 f1, .int .u8 f2, .int .u8 f3, .bool o, .int .u8 c0, .int .u8 c1, .int .u8 w0, .int .u8 w1, .int .u8 w2, .int .u8 w3, .int .u8 w4] 69 w.heap.size rfl).2 9 _ rfl
 obtain ⟨u0, u1⟩ := hh
 have k0 : IntKind.i64.wrap h = h := IntWalk.i64_in _ (by omega)
 have k1 : IntKind.i64.wrap (40 + h) = 40 + h := IntWalk.i64_in _ (by omega)
 go_enter Try.func39, Try.ntmps39
 go_upto_region 2 with fail
 refine wp_abs (fun X => Gr w X ∧ Box X w.heap.size [.int .u8 p0, .int .u8 p1, .int .u8 p2, .int .u8 p3, .int .u8 h, .int .u8 f0, .int .u8 f1, .int .u8 f2, .int .u8 f3, .bool o, .int .u8 c0, .int .u8 c1, .int .u8 w0, .int .u8 w1, .int .u8 w2, .int .u8 w3, .int .u8 w4] ∧ Own X (w.heap.size + 1) [.int .i64 0, .slice none 0 0, .int .i64 0, .slice none 0 0, .slice none 0 0, .int .i64 0, .bool false] ∧ Own X (w.heap.size + 1 + 1) [.int .i64 30, .slice none 0 0, .int .i64 (40 + h), .slice none 0 0, .slice none 0 0, .int .i64 9, .bool o]) ⟨gg, h1, h2, h3⟩ ?_
 clear gg h1 h2 h3 q4 q9 k0 k1
 rintro X ⟨gX, h1, h2, h3⟩
 obtain ⟨N, hN⟩ : ∃ N, X.heap.size = N := ⟨_, rfl⟩
 have lN : w.heap.size + 1 + 1 < N := hN ▸ h3.1.1
 go_wp2
 go_loopw [4] (fun t wr => Hid (∃ v : Value, Gr w wr ∧ Box wr w.heap.size [.int .u8 p0, .int .u8 p1, .int .u8 p2, .int .u8 p3, .int .u8 h, .int .u8 f0, .int .u8 f1, .int .u8 f2, .int .u8 f3, .bool o, .int .u8 c0, .int .u8 c1, .int .u8 w0, .int .u8 w1, .int .u8 w2, .int .u8 w3, .int .u8 w4] ∧ Own wr (w.heap.size + 1) [.int .i64 0, .slice none 0 0, .int .i64 0, .slice none 0 0, .slice none 0 0, .int .i64 0, .bool false] ∧ Own wr (w.heap.size + 1 + 1) [.int .i64 30, v, .int .i64 (40 + h), .slice none 0 0, .slice none 0 0, .int .i64 9, .bool o] ∧ N ≤ wr.heap.size ∧ ((t = .int .i64 0 ∧ wr.ownsRow N 3 1 v 0 []) ∨ (t = .int .i64 1 ∧ wr.ownsRow N 3 1 v 1 [.int .i64 (60 + p0)]) ∨ (t = .int .i64 2 ∧ wr.ownsRow N 3 1 v 2 [.int .i64 (60 + p0), .int .i64 (60 + p1)]) ∨ (t = .int .i64 3 ∧ wr.ownsRow N 3 1 v 3 [.int .i64 (60 + p0), .int .i64 (60 + p1), .int .i64 (60 + p2)]) ∨ (t = .int .i64 4 ∧ wr.ownsRow N 3 1 v 4 [.int .i64 (60 + p0), .int .i64 (60 + p1), .int .i64 (60 + p2), .int .i64 (60 + p3)])))) (fun t _ => 4 - (intOf t).toNat)
 case atStart => exact Lib.hid ⟨_, gX, h1, h2, h3, Nat.le_of_eq hN.symm, .inl ⟨rfl, World.ownsRow_nil _ _ _ _⟩⟩
 case round =>
  obtain ⟨v, gX', h1, h2, h3, lX, hx⟩ := hrel.out
  clear hrel gX hN
  have gX := gX'
  clear gX'
  rcases hx with ⟨rfl, hown⟩ | ⟨rfl, hown⟩ | ⟨rfl, hown⟩ | ⟨rfl, hown⟩ | ⟨rfl, hown⟩
  ·obtain ⟨y0, y1⟩ := hp0
   have e0 := h1.2 0 _ rfl
   have s1 := h3.1.2 1 _ rfl
   have k0 : IntKind.i64.wrap p0 = p0 := IntWalk.i64_in _ (by omega)
   have k1 : IntKind.i64.wrap (60 + p0) = 60 + p0 := IntWalk.i64_in _ (by omega)
   go_wp2
   have hF : SheetHeld w.heap.size 0 p0 (w.heap.size + 1 + 1) 1 v wr.drew := ⟨(h1.keep (Gr.dr wr)).2 0 _ rfl, (h3.keep (Gr.dr wr)).1.2 1 _ rfl⟩
   haveI : Nonempty (AtW (SheetHeld w.heap.size 0 p0 (w.heap.size + 1 + 1) 1 v)) := ⟨⟨_, hF⟩⟩
   have z0 : ∀ u : AtW (SheetHeld w.heap.size 0 p0 (w.heap.size + 1 + 1) 1 v), u.val.cell? ⟨w.heap.size, 0, none⟩ = some (.int .u8 p0) := fun u => u.property.1
   have z1 : ∀ u : AtW (SheetHeld w.heap.size 0 p0 (w.heap.size + 1 + 1) 1 v), u.val.cell? ⟨(w.heap.size + 1 + 1), 1, none⟩ = some v := fun u => u.property.2
   clear e0 s1
   refine wp_region_ord (fun w' => ∃ u : AtW (SheetHeld w.heap.size 0 p0 (w.heap.size + 1 + 1) 1 v), w' = u.val) 10 ((List.range' 0 8).map (fun i => (i, true)) ++ [(8, false), (9, false)]) (by kernel_rfl) (by kernel_rfl) ⟨⟨_, hF⟩, rfl⟩ ?_
   refine ord_seg 0 8 (by kernel_rfl) (fun d _ _ _ _ h => by cases d <;> exact h) ?_
   simp only [List.drop_zero, List.take_succ_cons, List.take_zero]
   repeat (go_big_quiet_step (fail))
   refine wpQuiet_nil ?_
   refine wpOp_step rfl (fun K' hK => ?_)
   go_simp
   have hga := (Gr.dr wr).tr (Gr.al wr.drew (.cells #[.int .i64 (60 + p0)] 3))
   refine hK _ _ ⟨⟨⟨_, (h1.keep hga).2 0 _ rfl, (h3.keep hga).1.2 1 _ rfl⟩, rfl⟩, ?_⟩
   clear hK
   refine wpOp_step rfl (fun K' hK => ?_)
   refine step_append_lies _ (by rfl) _ _ 22 (by rfl) N 3 i0 (.int .i64 0) 1 8 Try.underlying22 hi hz0 hz1 hz2 rfl (by decide) v 0 _ (by rfl) (owns_keep hown hga) ⟨wr.heap.size, 0, none⟩ 1 1 ([60 + p0].map (fun n => Value.int .i64 n)) (by rfl) (by rfl) (cell_news _ _ _) (ints_one _) (by omega) (by unfold maxLen; omega) (by omega) (Nat.le_trans lX hga.size) _ rfl ?_
   intro gb cap y4 hown4 hgr4 hat4 hlt4
   have hne4 : ∀ r, v.ownBlock = some r → N ≤ r := fun r hr => (hown.lt r hr).1
   have h1' := (h1.keep hga).grown hgr4 (fun r hr => by have := hne4 r hr; omega)
   have h2' := (h2.keep hga).grownRow hgr4 (fun r hr => by have := hne4 r hr; omega)
   have h3' := (h3.keep hga).grownRow hgr4 (fun r hr => by have := hne4 r hr; omega)
   have gY := (gX.tr hga).grown' (owns_keep hown hga) (by omega) hgr4
   have lY := Nat.le_trans lX (Nat.le_trans hga.size hgr4.size)
   refine hK _ _ ⟨⟨⟨_, h1'.2 0 _ rfl, h3'.1.2 1 _ rfl⟩, rfl⟩, ?_⟩
   clear hK z0 z1
   simp only [wpOrd, Act.put, List.setIfInBounds_toArray]
   have s1 := h3'.1.2 1 _ rfl
   have z1 := h3'.2 1
   clear k0 k1
   go_wp2
   go_roundw
   case rel => exact Lib.hid ⟨_, gY.setCell (p := ⟨(w.heap.size + 1 + 1), 1, none⟩) (show w.heap.size ≤ w.heap.size + 1 + 1 by omega) _, h1'.other (by omega), h2'.other (by omega), h3'.set (i := 1) (by simp), by simpa using lY, .inr (.inl ⟨rfl, owns_other hown4 (by omega)⟩)⟩
   case measure => simp [intOf]
  ·obtain ⟨y0, y1⟩ := hp1
   have e0 := h1.2 1 _ rfl
   have s1 := h3.1.2 1 _ rfl
   have k0 : IntKind.i64.wrap p1 = p1 := IntWalk.i64_in _ (by omega)
   have k1 : IntKind.i64.wrap (60 + p1) = 60 + p1 := IntWalk.i64_in _ (by omega)
   go_wp2
   have hF : SheetHeld w.heap.size 1 p1 (w.heap.size + 1 + 1) 1 v wr.drew := ⟨(h1.keep (Gr.dr wr)).2 1 _ rfl, (h3.keep (Gr.dr wr)).1.2 1 _ rfl⟩
   haveI : Nonempty (AtW (SheetHeld w.heap.size 1 p1 (w.heap.size + 1 + 1) 1 v)) := ⟨⟨_, hF⟩⟩
   have z0 : ∀ u : AtW (SheetHeld w.heap.size 1 p1 (w.heap.size + 1 + 1) 1 v), u.val.cell? ⟨w.heap.size, 1, none⟩ = some (.int .u8 p1) := fun u => u.property.1
   have z1 : ∀ u : AtW (SheetHeld w.heap.size 1 p1 (w.heap.size + 1 + 1) 1 v), u.val.cell? ⟨(w.heap.size + 1 + 1), 1, none⟩ = some v := fun u => u.property.2
   clear e0 s1
   refine wp_region_ord (fun w' => ∃ u : AtW (SheetHeld w.heap.size 1 p1 (w.heap.size + 1 + 1) 1 v), w' = u.val) 10 ((List.range' 0 8).map (fun i => (i, true)) ++ [(8, false), (9, false)]) (by kernel_rfl) (by kernel_rfl) ⟨⟨_, hF⟩, rfl⟩ ?_
   refine ord_seg 0 8 (by kernel_rfl) (fun d _ _ _ _ h => by cases d <;> exact h) ?_
   simp only [List.drop_zero, List.take_succ_cons, List.take_zero]
   repeat (go_big_quiet_step (fail))
   refine wpQuiet_nil ?_
   refine wpOp_step rfl (fun K' hK => ?_)
   go_simp
   have hga := (Gr.dr wr).tr (Gr.al wr.drew (.cells #[.int .i64 (60 + p1)] 3))
   refine hK _ _ ⟨⟨⟨_, (h1.keep hga).2 1 _ rfl, (h3.keep hga).1.2 1 _ rfl⟩, rfl⟩, ?_⟩
   clear hK
   refine wpOp_step rfl (fun K' hK => ?_)
   refine step_append_lies _ (by rfl) _ _ 22 (by rfl) N 3 i0 (.int .i64 0) 1 8 Try.underlying22 hi hz0 hz1 hz2 rfl (by decide) v 1 _ (by rfl) (owns_keep hown hga) ⟨wr.heap.size, 0, none⟩ 1 1 ([60 + p1].map (fun n => Value.int .i64 n)) (by rfl) (by rfl) (cell_news _ _ _) (ints_one _) (by omega) (by unfold maxLen; omega) (by omega) (Nat.le_trans lX hga.size) _ rfl ?_
   intro gb cap y4 hown4 hgr4 hat4 hlt4
   have hne4 : ∀ r, v.ownBlock = some r → N ≤ r := fun r hr => (hown.lt r hr).1
   have h1' := (h1.keep hga).grown hgr4 (fun r hr => by have := hne4 r hr; omega)
   have h2' := (h2.keep hga).grownRow hgr4 (fun r hr => by have := hne4 r hr; omega)
   have h3' := (h3.keep hga).grownRow hgr4 (fun r hr => by have := hne4 r hr; omega)
   have gY := (gX.tr hga).grown' (owns_keep hown hga) (by omega) hgr4
   have lY := Nat.le_trans lX (Nat.le_trans hga.size hgr4.size)
   refine hK _ _ ⟨⟨⟨_, h1'.2 1 _ rfl, h3'.1.2 1 _ rfl⟩, rfl⟩, ?_⟩
   clear hK z0 z1
   simp only [wpOrd, Act.put, List.setIfInBounds_toArray]
   have s1 := h3'.1.2 1 _ rfl
   have z1 := h3'.2 1
   clear k0 k1
   go_wp2
   go_roundw
   case rel => exact Lib.hid ⟨_, gY.setCell (p := ⟨(w.heap.size + 1 + 1), 1, none⟩) (show w.heap.size ≤ w.heap.size + 1 + 1 by omega) _, h1'.other (by omega), h2'.other (by omega), h3'.set (i := 1) (by simp), by simpa using lY, .inr (.inr (.inl ⟨rfl, owns_other hown4 (by omega)⟩))⟩
   case measure => simp [intOf]
  ·obtain ⟨y0, y1⟩ := hp2
   have e0 := h1.2 2 _ rfl
   have s1 := h3.1.2 1 _ rfl
   have k0 : IntKind.i64.wrap p2 = p2 := IntWalk.i64_in _ (by omega)
   have k1 : IntKind.i64.wrap (60 + p2) = 60 + p2 := IntWalk.i64_in _ (by omega)
   go_wp2
   have hF : SheetHeld w.heap.size 2 p2 (w.heap.size + 1 + 1) 1 v wr.drew := ⟨(h1.keep (Gr.dr wr)).2 2 _ rfl, (h3.keep (Gr.dr wr)).1.2 1 _ rfl⟩
   haveI : Nonempty (AtW (SheetHeld w.heap.size 2 p2 (w.heap.size + 1 + 1) 1 v)) := ⟨⟨_, hF⟩⟩
   have z0 : ∀ u : AtW (SheetHeld w.heap.size 2 p2 (w.heap.size + 1 + 1) 1 v), u.val.cell? ⟨w.heap.size, 2, none⟩ = some (.int .u8 p2) := fun u => u.property.1
   have z1 : ∀ u : AtW (SheetHeld w.heap.size 2 p2 (w.heap.size + 1 + 1) 1 v), u.val.cell? ⟨(w.heap.size + 1 + 1), 1, none⟩ = some v := fun u => u.property.2
   clear e0 s1
   refine wp_region_ord (fun w' => ∃ u : AtW (SheetHeld w.heap.size 2 p2 (w.heap.size + 1 + 1) 1 v), w' = u.val) 10 ((List.range' 0 8).map (fun i => (i, true)) ++ [(8, false), (9, false)]) (by kernel_rfl) (by kernel_rfl) ⟨⟨_, hF⟩, rfl⟩ ?_
   refine ord_seg 0 8 (by kernel_rfl) (fun d _ _ _ _ h => by cases d <;> exact h) ?_
   simp only [List.drop_zero, List.take_succ_cons, List.take_zero]
   repeat (go_big_quiet_step (fail))
   refine wpQuiet_nil ?_
   refine wpOp_step rfl (fun K' hK => ?_)
   go_simp
   have hga := (Gr.dr wr).tr (Gr.al wr.drew (.cells #[.int .i64 (60 + p2)] 3))
   refine hK _ _ ⟨⟨⟨_, (h1.keep hga).2 2 _ rfl, (h3.keep hga).1.2 1 _ rfl⟩, rfl⟩, ?_⟩
   clear hK
   refine wpOp_step rfl (fun K' hK => ?_)
   refine step_append_lies _ (by rfl) _ _ 22 (by rfl) N 3 i0 (.int .i64 0) 1 8 Try.underlying22 hi hz0 hz1 hz2 rfl (by decide) v 2 _ (by rfl) (owns_keep hown hga) ⟨wr.heap.size, 0, none⟩ 1 1 ([60 + p2].map (fun n => Value.int .i64 n)) (by rfl) (by rfl) (cell_news _ _ _) (ints_one _) (by omega) (by unfold maxLen; omega) (by omega) (Nat.le_trans lX hga.size) _ rfl ?_
   intro gb cap y4 hown4 hgr4 hat4 hlt4
   have hne4 : ∀ r, v.ownBlock = some r → N ≤ r := fun r hr => (hown.lt r hr).1
   have h1' := (h1.keep hga).grown hgr4 (fun r hr => by have := hne4 r hr; omega)
   have h2' := (h2.keep hga).grownRow hgr4 (fun r hr => by have := hne4 r hr; omega)
   have h3' := (h3.keep hga).grownRow hgr4 (fun r hr => by have := hne4 r hr; omega)
   have gY := (gX.tr hga).grown' (owns_keep hown hga) (by omega) hgr4
   have lY := Nat.le_trans lX (Nat.le_trans hga.size hgr4.size)
   refine hK _ _ ⟨⟨⟨_, h1'.2 2 _ rfl, h3'.1.2 1 _ rfl⟩, rfl⟩, ?_⟩
   clear hK z0 z1
   simp only [wpOrd, Act.put, List.setIfInBounds_toArray]
   have s1 := h3'.1.2 1 _ rfl
   have z1 := h3'.2 1
   clear k0 k1
   go_wp2
   go_roundw
   case rel => exact Lib.hid ⟨_, gY.setCell (p := ⟨(w.heap.size + 1 + 1), 1, none⟩) (show w.heap.size ≤ w.heap.size + 1 + 1 by omega) _, h1'.other (by omega), h2'.other (by omega), h3'.set (i := 1) (by simp), by simpa using lY, .inr (.inr (.inr (.inl ⟨rfl, owns_other hown4 (by omega)⟩)))⟩
   case measure => simp [intOf]
  ·obtain ⟨y0, y1⟩ := hp3
   have e0 := h1.2 3 _ rfl
   have s1 := h3.1.2 1 _ rfl
   have k0 : IntKind.i64.wrap p3 = p3 := IntWalk.i64_in _ (by omega)
   have k1 : IntKind.i64.wrap (60 + p3) = 60 + p3 := IntWalk.i64_in _ (by omega)
   go_wp2
   have hF : SheetHeld w.heap.size 3 p3 (w.heap.size + 1 + 1) 1 v wr.drew := ⟨(h1.keep (Gr.dr wr)).2 3 _ rfl, (h3.keep (Gr.dr wr)).1.2 1 _ rfl⟩
   haveI : Nonempty (AtW (SheetHeld w.heap.size 3 p3 (w.heap.size + 1 + 1) 1 v)) := ⟨⟨_, hF⟩⟩
   have z0 : ∀ u : AtW (SheetHeld w.heap.size 3 p3 (w.heap.size + 1 + 1) 1 v), u.val.cell? ⟨w.heap.size, 3, none⟩ = some (.int .u8 p3) := fun u => u.property.1
   have z1 : ∀ u : AtW (SheetHeld w.heap.size 3 p3 (w.heap.size + 1 + 1) 1 v), u.val.cell? ⟨(w.heap.size + 1 + 1), 1, none⟩ = some v := fun u => u.property.2
   clear e0 s1
   refine wp_region_ord (fun w' => ∃ u : AtW (SheetHeld w.heap.size 3 p3 (w.heap.size + 1 + 1) 1 v), w' = u.val) 10 ((List.range' 0 8).map (fun i => (i, true)) ++ [(8, false), (9, false)]) (by kernel_rfl) (by kernel_rfl) ⟨⟨_, hF⟩, rfl⟩ ?_
   refine ord_seg 0 8 (by kernel_rfl) (fun d _ _ _ _ h => by cases d <;> exact h) ?_
   simp only [List.drop_zero, List.take_succ_cons, List.take_zero]
   repeat (go_big_quiet_step (fail))
   refine wpQuiet_nil ?_
   refine wpOp_step rfl (fun K' hK => ?_)
   go_simp
   have hga := (Gr.dr wr).tr (Gr.al wr.drew (.cells #[.int .i64 (60 + p3)] 3))
   refine hK _ _ ⟨⟨⟨_, (h1.keep hga).2 3 _ rfl, (h3.keep hga).1.2 1 _ rfl⟩, rfl⟩, ?_⟩
   clear hK
   refine wpOp_step rfl (fun K' hK => ?_)
   refine step_append_lies _ (by rfl) _ _ 22 (by rfl) N 3 i0 (.int .i64 0) 1 8 Try.underlying22 hi hz0 hz1 hz2 rfl (by decide) v 3 _ (by rfl) (owns_keep hown hga) ⟨wr.heap.size, 0, none⟩ 1 1 ([60 + p3].map (fun n => Value.int .i64 n)) (by rfl) (by rfl) (cell_news _ _ _) (ints_one _) (by omega) (by unfold maxLen; omega) (by omega) (Nat.le_trans lX hga.size) _ rfl ?_
   intro gb cap y4 hown4 hgr4 hat4 hlt4
   have hne4 : ∀ r, v.ownBlock = some r → N ≤ r := fun r hr => (hown.lt r hr).1
   have h1' := (h1.keep hga).grown hgr4 (fun r hr => by have := hne4 r hr; omega)
   have h2' := (h2.keep hga).grownRow hgr4 (fun r hr => by have := hne4 r hr; omega)
   have h3' := (h3.keep hga).grownRow hgr4 (fun r hr => by have := hne4 r hr; omega)
   have gY := (gX.tr hga).grown' (owns_keep hown hga) (by omega) hgr4
   have lY := Nat.le_trans lX (Nat.le_trans hga.size hgr4.size)
   refine hK _ _ ⟨⟨⟨_, h1'.2 3 _ rfl, h3'.1.2 1 _ rfl⟩, rfl⟩, ?_⟩
   clear hK z0 z1
   simp only [wpOrd, Act.put, List.setIfInBounds_toArray]
   have s1 := h3'.1.2 1 _ rfl
   have z1 := h3'.2 1
   clear k0 k1
   go_wp2
   go_roundw
   case rel => exact Lib.hid ⟨_, gY.setCell (p := ⟨(w.heap.size + 1 + 1), 1, none⟩) (show w.heap.size ≤ w.heap.size + 1 + 1 by omega) _, h1'.other (by omega), h2'.other (by omega), h3'.set (i := 1) (by simp), by simpa using lY, .inr (.inr (.inr (.inr (⟨rfl, owns_other hown4 (by omega)⟩))))⟩
   case measure => simp [intOf]
  ·obtain ⟨a1, n1, hv, r1, m1⟩ := owns_row_new (enc := encI) (l := [60 + p0, 60 + p1, 60 + p2, 60 + p3]) (fun _ => rfl) (by simp) hown
   have hlt := hown.lt
   rw [hv] at hlt h3
   have hlt : ∀ r, (Value.slice a1 4 n1).ownBlock = some r → N ≤ r ∧ r < wr.heap.size := hlt
   have h3 : Own wr (w.heap.size + 1 + 1) [.int .i64 30, (.slice a1 4 n1), .int .i64 (40 + h), .slice none 0 0, .slice none 0 0, .int .i64 9, .bool o] := h3
   subst hv
   have R1 := Lib.hid r1
   have M1 := Lib.hid m1
   obtain ⟨M, hM⟩ : ∃ M, wr.heap.size = M := ⟨_, rfl⟩
   have HM := Lib.hid (show ∀ b f c, a1 = some ⟨b, f, c⟩ → b < M from fun b f c e => by
    subst e
    have := (hlt b rfl).2
    omega)
   have lM : N ≤ M := hM ▸ lX
   clear hlt hown r1 m1
   go_wp2
   go_loopw [5] (fun t wr => Hid (∃ s b : Value, Gr w wr ∧ Box wr w.heap.size [.int .u8 p0, .int .u8 p1, .int .u8 p2, .int .u8 p3, .int .u8 h, .int .u8 f0, .int .u8 f1, .int .u8 f2, .int .u8 f3, .bool o, .int .u8 c0, .int .u8 c1, .int .u8 w0, .int .u8 w1, .int .u8 w2, .int .u8 w3, .int .u8 w4] ∧ Own wr (w.heap.size + 1) [.int .i64 0, .slice none 0 0, .int .i64 0, .slice none 0 0, .slice none 0 0, .int .i64 0, .bool false] ∧ Own wr (w.heap.size + 1 + 1) [.int .i64 30, (.slice a1 4 n1), .int .i64 (40 + h), s, b, .int .i64 9, .bool o] ∧ M ≤ wr.heap.size ∧ IRow wr a1 [60 + p0, 60 + p1, 60 + p2, 60 + p3] ∧ ApartS s b ∧ ((t = .int .i64 0 ∧ wr.ownsRow M 3 1 s 0 [] ∧ wr.ownsRow M 3 1 b 0 []) ∨ (t = .int .i64 1 ∧ wr.ownsRow M 3 1 s 1 [.int .i64 f0] ∧ wr.ownsRow M 3 1 b 1 [.int .i64 f2]) ∨ (t = .int .i64 2 ∧ wr.ownsRow M 3 1 s 2 [.int .i64 f0, .int .i64 f1] ∧ wr.ownsRow M 3 1 b 2 [.int .i64 f2, .int .i64 f3])))) (fun t _ => 2 - (intOf t).toNat)
   case atStart => exact Lib.hid ⟨_, _, gX, h1, h2, h3, Nat.le_of_eq hM.symm, R1.out, fun r e => by simp [Value.ownBlock] at e, .inl ⟨rfl, World.ownsRow_nil _ _ _ _, World.ownsRow_nil _ _ _ _⟩⟩
   case round =>
    obtain ⟨s, b, gX', h1, h2, h3, lX, r1, hap, hx⟩ := hrel.out
    clear hrel gX hM R1
    have gX := gX'
    clear gX'
    rcases hx with ⟨rfl, hs, hb⟩ | ⟨rfl, hs, hb⟩ | ⟨rfl, hs, hb⟩
    ·obtain ⟨y0, y1⟩ := hf0
     obtain ⟨y2, y3⟩ := hf2
     have e0 := h1.2 5 _ rfl
     have e1 := h1.2 7 _ rfl
     have s1 := h3.1.2 3 _ rfl
     have s2 := h3.1.2 4 _ rfl
     have k0 : IntKind.i64.wrap f0 = f0 := IntWalk.i64_in _ (by omega)
     have k1 : IntKind.i64.wrap f2 = f2 := IntWalk.i64_in _ (by omega)
     go_wp2
     clear e0 e1 s1 s2
     obtain ⟨D, hD⟩ : ∃ D, wr.heap.size = D := ⟨_, rfl⟩
     have hsD : ∀ r, s.ownBlock = some r → M ≤ r ∧ r < D := fun r e => hD ▸ hs.lt r e
     have hbD : ∀ r, b.ownBlock = some r → M ≤ r ∧ r < D := fun r e => hD ▸ hb.lt r e
     have lD : M ≤ D := hD ▸ lX
     have hC0 : Box wr.drew w.heap.size [.int .u8 p0, .int .u8 p1, .int .u8 p2, .int .u8 p3, .int .u8 h, .int .u8 f0, .int .u8 f1, .int .u8 f2, .int .u8 f3, .bool o, .int .u8 c0, .int .u8 c1, .int .u8 w0, .int .u8 w1, .int .u8 w2, .int .u8 w3, .int .u8 w4] ∧ Own wr.drew (w.heap.size + 1) [.int .i64 0, .slice none 0 0, .int .i64 0, .slice none 0 0, .slice none 0 0, .int .i64 0, .bool false] ∧ Own wr.drew (w.heap.size + 1 + 1) [.int .i64 30, (.slice a1 4 n1), .int .i64 (40 + h), s, b, .int .i64 9, .bool o] ∧ IRow wr.drew a1 [60 + p0, 60 + p1, 60 + p2, 60 + p3] ∧ D ≤ wr.drew.heap.size := ⟨h1.keep (Gr.dr _), h2.keep (Gr.dr _), h3.keep (Gr.dr _), r1.grow (Gr.dr _), Nat.le_of_eq hD.symm⟩
     have hS0 : Gr w wr.drew ∧ wr.drew.ownsRow M 3 1 s 0 [] ∧ wr.drew.ownsRow M 3 1 b 0 [] := ⟨gX.tr (Gr.dr _), owns_keep hs (Gr.dr _), owns_keep hb (Gr.dr _)⟩
     clear h1 h2 h3 r1 gX hs hb lX hD
     refine wp_region_two (fun r => M ≤ r ∧ r < D) 20 8 18 [(1, 0), (4, 3), (4, 2), (5, 4), (6, 5), (7, 6), (8, 1), (8, 7), (10, 9), (12, 11), (14, 13), (14, 12), (15, 14), (16, 15), (17, 16), (18, 10), (18, 17), (18, 8)] (fun x => ⟨#[.agg #[.int .u8 p0, .int .u8 p1, .int .u8 p2, .int .u8 p3, .int .u8 h, .int .u8 f0, .int .u8 f1, .int .u8 f2, .int .u8 f3, .bool o, .int .u8 c0, .int .u8 c1, .int .u8 w0, .int .u8 w1, .int .u8 w2, .int .u8 w3, .int .u8 w4], .pointer (some ⟨w.heap.size, 0, none⟩), .pointer (some ⟨(w.heap.size + 1), 0, none⟩), .pointer (some ⟨(w.heap.size + 1 + 1), 0, none⟩), .int .i64 4, .int .i64 0, .pointer (some ⟨w.heap.size, 4, none⟩), .int .u8 h, .int .i64 h, .int .i64 (40 + h), .pointer (some ⟨w.heap.size, 9, none⟩), .bool o, .agg #[.int .i64 30, .slice none 0 0, .int .i64 (40 + h), .slice none 0 0, .slice none 0 0, .int .i64 9, .bool o], .int .i64 4, .bool false, u15, u16, u17, u18, u19, u20, u21, u22, u23, u24, u25, u26, u27, .int .i64 0, .bool true, u30, u31, x 0, x 1, x 2, x 3, x 4, x 5, x 6, x 7, x 8, x 9, x 10, x 11, x 12, x 13, x 14, x 15, x 16, x 17, x 18, x 19, u52, undef, undef, undef, undef, undef], []⟩) (fun i => [u32, u33, u34, u35, u36, u37, u38, u39, u40, u41, u42, u43, u44, u45, u46, u47, u48, u49, u50, u51].getD i undef) [fun _ x => x = .pointer (some ⟨(w.heap.size + 1 + 1), 3, none⟩), fun _ x => x = s, fun _ x => x = .int .i64 0, fun _ x => x = .pointer (some ⟨w.heap.size, 5, none⟩), fun _ x => x = .pointer (some ⟨w.heap.size, 5, none⟩), fun _ x => x = .int .u8 f0, fun _ x => x = .int .i64 f0, fun v x => ∃ b, x = .slice (some ⟨b, 0, none⟩) 1 1 ∧ D ≤ b ∧ Box v b [.int .i64 f0], fun _ _ => True, fun _ x => x = .pointer (some ⟨(w.heap.size + 1 + 1), 4, none⟩), fun _ x => x = b, fun _ x => x = .int .i64 0, fun _ x => x = .int .i64 2, fun _ x => x = .pointer (some ⟨w.heap.size, 5, none⟩), fun _ x => x = .pointer (some ⟨w.heap.size, 7, none⟩), fun _ x => x = .int .u8 f2, fun _ x => x = .int .i64 f2, fun v x => ∃ b, x = .slice (some ⟨b, 0, none⟩) 1 1 ∧ D ≤ b ∧ Box v b [.int .i64 f2], fun _ _ => True, fun _ x => x = .pointer (some ⟨(w.heap.size + 1 + 1), 3, none⟩)] (fun v => Box v w.heap.size [.int .u8 p0, .int .u8 p1, .int .u8 p2, .int .u8 p3, .int .u8 h, .int .u8 f0, .int .u8 f1, .int .u8 f2, .int .u8 f3, .bool o, .int .u8 c0, .int .u8 c1, .int .u8 w0, .int .u8 w1, .int .u8 w2, .int .u8 w3, .int .u8 w4] ∧ Own v (w.heap.size + 1) [.int .i64 0, .slice none 0 0, .int .i64 0, .slice none 0 0, .slice none 0 0, .int .i64 0, .bool false] ∧ Own v (w.heap.size + 1 + 1) [.int .i64 30, (.slice a1 4 n1), .int .i64 (40 + h), s, b, .int .i64 9, .bool o] ∧ IRow v a1 [60 + p0, 60 + p1, 60 + p2, 60 + p3] ∧ D ≤ v.heap.size) (fun v => Gr w v ∧ v.ownsRow M 3 1 s 0 [] ∧ v.ownsRow M 3 1 b 0 []) (fun v x => Gr w v ∧ v.ownsRow M 3 1 x 1 [.int .i64 f0] ∧ v.ownsRow M 3 1 b 0 [] ∧ ApartS x b) (fun v x y => Gr w v ∧ v.ownsRow M 3 1 x 1 [.int .i64 f0] ∧ v.ownsRow M 3 1 y 1 [.int .i64 f2] ∧ ApartS x y) (by rfl) (by kernel_rfl) (by kernel_rfl) (by kernel_rfl) (by simp) (by omega) (by omega) (by omega) (staysZ_cons (StaysZ.eq _ _) (staysZ_cons (StaysZ.eq _ _) (staysZ_cons (StaysZ.eq _ _) (staysZ_cons (StaysZ.eq _ _) (staysZ_cons (StaysZ.eq _ _) (staysZ_cons (StaysZ.eq _ _) (staysZ_cons (StaysZ.eq _ _) (staysZ_cons (show StaysZ _ (fun v x => ∃ b, x = .slice (some ⟨b, 0, none⟩) 1 1 ∧ D ≤ b ∧ Box v b [.int .i64 f0]) from fun v v' x g ⟨b, h, h1, h2⟩ => ⟨b, h, h1, boxS_kx h2 g (by omega)⟩) (staysZ_cons (fun _ _ _ _ _ => trivial) (staysZ_cons (StaysZ.eq _ _) (staysZ_cons (StaysZ.eq _ _) (staysZ_cons (StaysZ.eq _ _) (staysZ_cons (StaysZ.eq _ _) (staysZ_cons (StaysZ.eq _ _) (staysZ_cons (StaysZ.eq _ _) (staysZ_cons (StaysZ.eq _ _) (staysZ_cons (StaysZ.eq _ _) (staysZ_cons (show StaysZ _ (fun v x => ∃ b, x = .slice (some ⟨b, 0, none⟩) 1 1 ∧ D ≤ b ∧ Box v b [.int .i64 f2]) from fun v v' x g ⟨b, h, h1, h2⟩ => ⟨b, h, h1, boxS_kx h2 g (by omega)⟩) (staysZ_cons (fun _ _ _ _ _ => trivial) (staysZ_cons (StaysZ.eq _ _) staysZ_nil))))))))))))))))))))
      (fun v v' g h => ⟨boxS_kx h.1 g (by omega), h.2.1.kx g (by omega), h.2.2.1.kx g (by omega), h.2.2.2.1.kx g (fun b f e h9 => by have := HM.out b f none e; omega), Nat.le_trans h.2.2.2.2 g.size⟩) (fun v v' g h => ⟨h.1.tr g, owns_keep h.2.1 g, owns_keep h.2.2 g⟩) (fun v v' x g h => ⟨h.1.tr g, owns_keep h.2.1 g, owns_keep h.2.2.1 g, h.2.2.2⟩) (fun v v' x y g h => ⟨h.1.tr g, owns_keep h.2.1 g, owns_keep h.2.2.1 g, h.2.2.2⟩) hC0 hS0 ?stepA ?ppA ?qqA ?finA
     case stepA =>
      rintro i hi np nq x v hc hd K hK
      have hi8 : i = 0 ∨ i = 1 ∨ i = 2 ∨ i = 3 ∨ i = 4 ∨ i = 5 ∨ i = 6 ∨ i = 7 ∨ i = 9 ∨ i = 10 ∨ i = 11 ∨ i = 12 ∨ i = 13 ∨ i = 14 ∨ i = 15 ∨ i = 16 ∨ i = 17 ∨ i = 19 := by omega
      rcases hi8 with rfl | rfl | rfl | rfl | rfl | rfl | rfl | rfl | rfl | rfl | rfl | rfl | rfl | rfl | rfl | rfl | rfl | rfl
      ·try dsimp only [upd, Nat.reduceBEq, cond_true, cond_false]
       refine wpOp_step rfl (fun K' hK' => ?_)
       go_simp
       exact hK' _ _ (hK _ _ (Below.refl _ _) (at_of rfl (rfl)))
      ·obtain ⟨x, rfl⟩ := upd_of (show x 0 = .pointer (some ⟨(w.heap.size + 1 + 1), 3, none⟩) from hd 0 _ (by simp) (by decide) (by decide) rfl)
       try dsimp only [upd, Nat.reduceBEq, cond_true, cond_false]
       have q := hc.2.2.1.1.2 3 _ rfl
       refine wpOp_step rfl (fun K' hK' => ?_)
       go_simp
       exact hK' _ _ (hK _ _ (Below.refl _ _) (at_of rfl (rfl)))
      ·try dsimp only [upd, Nat.reduceBEq, cond_true, cond_false]
       refine wpOp_step rfl (fun K' hK' => ?_)
       go_simp
       exact hK' _ _ (hK _ _ (Below.refl _ _) (at_of rfl (rfl)))
      ·try dsimp only [upd, Nat.reduceBEq, cond_true, cond_false]
       refine wpOp_step rfl (fun K' hK' => ?_)
       go_simp
       exact hK' _ _ (hK _ _ (Below.refl _ _) (at_of rfl (rfl)))
      ·obtain ⟨x, rfl⟩ := upd_of (show x 3 = .pointer (some ⟨w.heap.size, 5, none⟩) from hd 3 _ (by simp) (by decide) (by decide) rfl)
       obtain ⟨x, rfl⟩ := upd_of (show x 2 = .int .i64 0 from hd 2 _ (by simp) (by decide) (by decide) rfl)
       try dsimp only [upd, Nat.reduceBEq, cond_true, cond_false]
       refine wpOp_step rfl (fun K' hK' => ?_)
       go_simp
       exact hK' _ _ (hK _ _ (Below.refl _ _) (at_of rfl (rfl)))
      ·obtain ⟨x, rfl⟩ := upd_of (show x 4 = .pointer (some ⟨w.heap.size, 5, none⟩) from hd 4 _ (by simp) (by decide) (by decide) rfl)
       try dsimp only [upd, Nat.reduceBEq, cond_true, cond_false]
       have q := hc.1.2 5 _ rfl
       refine wpOp_step rfl (fun K' hK' => ?_)
       go_simp
       exact hK' _ _ (hK _ _ (Below.refl _ _) (at_of rfl (rfl)))
      ·obtain ⟨x, rfl⟩ := upd_of (show x 5 = .int .u8 f0 from hd 5 _ (by simp) (by decide) (by decide) rfl)
       try dsimp only [upd, Nat.reduceBEq, cond_true, cond_false]
       refine wpOp_step rfl (fun K' hK' => ?_)
       go_simp
       exact hK' _ _ (hK _ _ (Below.refl _ _) (at_of rfl (rfl)))
      ·obtain ⟨x, rfl⟩ := upd_of (show x 6 = .int .i64 f0 from hd 6 _ (by simp) (by decide) (by decide) rfl)
       try dsimp only [upd, Nat.reduceBEq, cond_true, cond_false]
       refine wpOp_step rfl (fun K' hK' => ?_)
       go_simp
       have gA := Gr.al v (.cells (List.toArray [.int .i64 f0]) 3)
       exact hK' _ _ (hK _ _ gA (at_of rfl ⟨v.heap.size, rfl, hc.2.2.2.2, Box.new v [.int .i64 f0] 3 v.heap.size rfl⟩))
      ·try dsimp only [upd, Nat.reduceBEq, cond_true, cond_false]
       refine wpOp_step rfl (fun K' hK' => ?_)
       go_simp
       exact hK' _ _ (hK _ _ (Below.refl _ _) (at_of rfl (rfl)))
      ·obtain ⟨x, rfl⟩ := upd_of (show x 9 = .pointer (some ⟨(w.heap.size + 1 + 1), 4, none⟩) from hd 9 _ (by simp) (by decide) (by decide) rfl)
       try dsimp only [upd, Nat.reduceBEq, cond_true, cond_false]
       have q := hc.2.2.1.1.2 4 _ rfl
       refine wpOp_step rfl (fun K' hK' => ?_)
       go_simp
       exact hK' _ _ (hK _ _ (Below.refl _ _) (at_of rfl (rfl)))
      ·try dsimp only [upd, Nat.reduceBEq, cond_true, cond_false]
       refine wpOp_step rfl (fun K' hK' => ?_)
       go_simp
       exact hK' _ _ (hK _ _ (Below.refl _ _) (at_of rfl (rfl)))
      ·obtain ⟨x, rfl⟩ := upd_of (show x 11 = .int .i64 0 from hd 11 _ (by simp) (by decide) (by decide) rfl)
       try dsimp only [upd, Nat.reduceBEq, cond_true, cond_false]
       refine wpOp_step rfl (fun K' hK' => ?_)
       go_simp
       exact hK' _ _ (hK _ _ (Below.refl _ _) (at_of rfl (rfl)))
      ·try dsimp only [upd, Nat.reduceBEq, cond_true, cond_false]
       refine wpOp_step rfl (fun K' hK' => ?_)
       go_simp
       exact hK' _ _ (hK _ _ (Below.refl _ _) (at_of rfl (rfl)))
      ·obtain ⟨x, rfl⟩ := upd_of (show x 13 = .pointer (some ⟨w.heap.size, 5, none⟩) from hd 13 _ (by simp) (by decide) (by decide) rfl)
       obtain ⟨x, rfl⟩ := upd_of (show x 12 = .int .i64 2 from hd 12 _ (by simp) (by decide) (by decide) rfl)
       try dsimp only [upd, Nat.reduceBEq, cond_true, cond_false]
       refine wpOp_step rfl (fun K' hK' => ?_)
       go_simp
       exact hK' _ _ (hK _ _ (Below.refl _ _) (at_of rfl (rfl)))
      ·obtain ⟨x, rfl⟩ := upd_of (show x 14 = .pointer (some ⟨w.heap.size, 7, none⟩) from hd 14 _ (by simp) (by decide) (by decide) rfl)
       try dsimp only [upd, Nat.reduceBEq, cond_true, cond_false]
       have q := hc.1.2 7 _ rfl
       refine wpOp_step rfl (fun K' hK' => ?_)
       go_simp
       exact hK' _ _ (hK _ _ (Below.refl _ _) (at_of rfl (rfl)))
      ·obtain ⟨x, rfl⟩ := upd_of (show x 15 = .int .u8 f2 from hd 15 _ (by simp) (by decide) (by decide) rfl)
       try dsimp only [upd, Nat.reduceBEq, cond_true, cond_false]
       refine wpOp_step rfl (fun K' hK' => ?_)
       go_simp
       exact hK' _ _ (hK _ _ (Below.refl _ _) (at_of rfl (rfl)))
      ·obtain ⟨x, rfl⟩ := upd_of (show x 16 = .int .i64 f2 from hd 16 _ (by simp) (by decide) (by decide) rfl)
       try dsimp only [upd, Nat.reduceBEq, cond_true, cond_false]
       refine wpOp_step rfl (fun K' hK' => ?_)
       go_simp
       have gA := Gr.al v (.cells (List.toArray [.int .i64 f2]) 3)
       exact hK' _ _ (hK _ _ gA (at_of rfl ⟨v.heap.size, rfl, hc.2.2.2.2, Box.new v [.int .i64 f2] 3 v.heap.size rfl⟩))
      ·try dsimp only [upd, Nat.reduceBEq, cond_true, cond_false]
       refine wpOp_step rfl (fun K' hK' => ?_)
       go_simp
       exact hK' _ _ (hK _ _ (Below.refl _ _) (at_of rfl (rfl)))
     case ppA =>
      rintro x v hc ⟨gv, o1, o2⟩ hd K hK
      obtain ⟨x, rfl⟩ := upd_of (show x 1 = s from hd 1 _ (by simp) (by decide) (by decide) rfl)
      obtain ⟨t7, e7, hb7, hx7⟩ := hd 7 _ (by simp) (by decide) (by decide) rfl
      obtain ⟨x, rfl⟩ := upd_of (show x 7 = .slice (some ⟨t7, 0, none⟩) 1 1 from e7)
      try dsimp only [upd, Nat.reduceBEq, cond_true, cond_false]
      refine wpOp_step rfl (fun K' hK' => ?_)
      refine step_append_lies _ (by rfl) _ _ 22 (by rfl) M 3 i0 (.int .i64 0) 1 8 Try.underlying22 hi hz0 hz1 hz2 rfl (by decide) s 0 _ (by rfl) o1 ⟨t7, 0, none⟩ 1 1 ([f0].map (fun n => Value.int .i64 n)) (by rfl) (by rfl) (fun j u hu => by have := hx7.2 j u hu; unfold Addr.add; split <;> simp_all) (ints_one _) (by omega) (by unfold maxLen; omega) (by omega) ?_ _ rfl ?_
      ·have := hc.2.2.2.2
       omega
      intro g cp y4 o4 hg4 ha4 hl4
      have hkx : Kx (fun r => M ≤ r ∧ r < D) v y4 := Kx.grown hg4 (fun r e => .inl (hsD r e))
      have gY := gv.grown' o1 (by omega) hg4
      have hap4 : ApartS (.slice (some ⟨g, 0, none⟩) (0 + 1) cp) b := (ApartS.after (ApartS.symm hap) ha4 (fun r e => (o2.lt r e).2)).symm
      exact hK' _ _ (hK _ _ hkx ⟨gY, o4, owns_apartS o2 hg4 (ApartS.symm hap), hap4⟩)
     case qqA =>
      rintro x v hc ⟨gv, o1, o2, hap1⟩ hd K hK
      obtain ⟨g1, hg1⟩ : ∃ r, x 8 = r := ⟨_, rfl⟩
      rw [hg1] at o1 hap1 hK
      obtain ⟨x, rfl⟩ := upd_of hg1
      obtain ⟨x, rfl⟩ := upd_of (show x 10 = b from hd 10 _ (by simp) (by decide) (by decide) rfl)
      obtain ⟨t17, e17, hb17, hx17⟩ := hd 17 _ (by simp) (by decide) (by decide) rfl
      obtain ⟨x, rfl⟩ := upd_of (show x 17 = .slice (some ⟨t17, 0, none⟩) 1 1 from e17)
      try dsimp only [upd, Nat.reduceBEq, cond_true, cond_false]
      refine wpOp_step rfl (fun K' hK' => ?_)
      refine step_append_lies _ (by rfl) _ _ 22 (by rfl) M 3 i0 (.int .i64 0) 1 8 Try.underlying22 hi hz0 hz1 hz2 rfl (by decide) b 0 _ (by rfl) o2 ⟨t17, 0, none⟩ 1 1 ([f2].map (fun n => Value.int .i64 n)) (by rfl) (by rfl) (fun j u hu => by have := hx17.2 j u hu; unfold Addr.add; split <;> simp_all) (ints_one _) (by omega) (by unfold maxLen; omega) (by omega) ?_ _ rfl ?_
      ·have := hc.2.2.2.2
       omega
      intro g cp y4 o4 hg4 ha4 hl4
      have hkx : Kx (fun r => M ≤ r ∧ r < D) v y4 := Kx.grown hg4 (fun r e => .inl (hbD r e))
      have gY := gv.grown' o2 (by omega) hg4
      have hap4 : ApartS g1 (.slice (some ⟨g, 0, none⟩) (0 + 1) cp) := ApartS.after hap1 ha4 (fun r e => (o1.lt r e).2)
      exact hK' _ _ (hK _ _ hkx ⟨gY, owns_apartS o1 hg4 hap1, o4, hap4⟩)
     case finA =>
      rintro x v hc ⟨gv, o1, o2, hap1⟩ hd
      obtain ⟨x, rfl⟩ := upd_of (show x 19 = .pointer (some ⟨(w.heap.size + 1 + 1), 3, none⟩) from hd 19 _ (by omega) (by decide) (by decide) rfl)
      clear hd
      obtain ⟨g1, hg1⟩ : ∃ r, upd x 19 (.pointer (some ⟨(w.heap.size + 1 + 1), 3, none⟩)) 8 = r := ⟨_, rfl⟩
      obtain ⟨g2, hg2⟩ : ∃ r, upd x 19 (.pointer (some ⟨(w.heap.size + 1 + 1), 3, none⟩)) 18 = r := ⟨_, rfl⟩
      rw [hg1, hg2] at hap1
      rw [hg1] at o1
      rw [hg2] at o2
      rw [upd_ne _ _ (by decide)] at hg1 hg2
      obtain ⟨x, rfl⟩ := upd_of hg1
      obtain ⟨x, rfl⟩ := upd_of (show x 18 = g2 from by rw [← hg2, upd_ne]; decide)
      show wpList Try.prog _ _ (List.drop 20 _) (⟨#[_, _, _, _, _, _, _, _, _, _, _, _, _, _, _, _, _, _, _, _, _, _, _, _, _, _, _, _, _, _, _, _, x 0, x 1, x 2, x 3, x 4, x 5, x 6, x 7, g1, x 9, x 10, x 11, x 12, x 13, x 14, x 15, x 16, x 17, g2, .pointer (some ⟨(w.heap.size + 1 + 1), 3, none⟩), _, _, _, _, _, _], []⟩ : Act) v
      simp only [List.drop_succ_cons, List.drop_zero]
      obtain ⟨h1, h2, h3, r1, lZ⟩ := hc
      have s1 := h3.1.2 3 _ rfl
      have s2 := h3.1.2 4 _ rfl
      have z1 := h3.2 3
      have z2 := h3.2 4
      clear k0 k1 hC0 hS0
      clear hg1 hg2
      obtain ⟨_, _, rfl, _, _⟩ := o1.form (by omega)
      obtain ⟨_, _, rfl, _, _⟩ := o2.form (by omega)
      go_wp2
      go_roundw
      case rel =>
       refine Lib.hid ⟨_, _, (gv.setCell (p := ⟨(w.heap.size + 1 + 1), 3, none⟩) (show w.heap.size ≤ w.heap.size + 1 + 1 by omega) _).setCell (p := ⟨(w.heap.size + 1 + 1), 4, none⟩) (show w.heap.size ≤ w.heap.size + 1 + 1 by omega) _, (h1.other (by omega)).other (by omega), (h2.other (by omega)).other (by omega), (h3.set (i := 3) (by simp)).set (i := 4) (by simp), ?_, ?_, hap1, .inr (.inl ⟨rfl, owns_other (owns_other o1 (by omega)) (by omega), owns_other (owns_other o2 (by omega)) (by omega)⟩)⟩
       ·have : M ≤ v.heap.size := by omega
        simpa using this
       ·have hm : NewAt N a1 := M1.out
        exact (r1.other hm (by omega)).other hm (by omega)
      case measure => simp [intOf]
    ·obtain ⟨y0, y1⟩ := hf1
     obtain ⟨y2, y3⟩ := hf3
     have e0 := h1.2 6 _ rfl
     have e1 := h1.2 8 _ rfl
     have s1 := h3.1.2 3 _ rfl
     have s2 := h3.1.2 4 _ rfl
     have k0 : IntKind.i64.wrap f1 = f1 := IntWalk.i64_in _ (by omega)
     have k1 : IntKind.i64.wrap f3 = f3 := IntWalk.i64_in _ (by omega)
     go_wp2
     clear e0 e1 s1 s2
     obtain ⟨D, hD⟩ : ∃ D, wr.heap.size = D := ⟨_, rfl⟩
     have hsD : ∀ r, s.ownBlock = some r → M ≤ r ∧ r < D := fun r e => hD ▸ hs.lt r e
     have hbD : ∀ r, b.ownBlock = some r → M ≤ r ∧ r < D := fun r e => hD ▸ hb.lt r e
     have lD : M ≤ D := hD ▸ lX
     have hC0 : Box wr.drew w.heap.size [.int .u8 p0, .int .u8 p1, .int .u8 p2, .int .u8 p3, .int .u8 h, .int .u8 f0, .int .u8 f1, .int .u8 f2, .int .u8 f3, .bool o, .int .u8 c0, .int .u8 c1, .int .u8 w0, .int .u8 w1, .int .u8 w2, .int .u8 w3, .int .u8 w4] ∧ Own wr.drew (w.heap.size + 1) [.int .i64 0, .slice none 0 0, .int .i64 0, .slice none 0 0, .slice none 0 0, .int .i64 0, .bool false] ∧ Own wr.drew (w.heap.size + 1 + 1) [.int .i64 30, (.slice a1 4 n1), .int .i64 (40 + h), s, b, .int .i64 9, .bool o] ∧ IRow wr.drew a1 [60 + p0, 60 + p1, 60 + p2, 60 + p3] ∧ D ≤ wr.drew.heap.size := ⟨h1.keep (Gr.dr _), h2.keep (Gr.dr _), h3.keep (Gr.dr _), r1.grow (Gr.dr _), Nat.le_of_eq hD.symm⟩
     have hS0 : Gr w wr.drew ∧ wr.drew.ownsRow M 3 1 s 1 [.int .i64 f0] ∧ wr.drew.ownsRow M 3 1 b 1 [.int .i64 f2] := ⟨gX.tr (Gr.dr _), owns_keep hs (Gr.dr _), owns_keep hb (Gr.dr _)⟩
     clear h1 h2 h3 r1 gX hs hb lX hD
     refine wp_region_two (fun r => M ≤ r ∧ r < D) 20 8 18 [(1, 0), (4, 3), (4, 2), (5, 4), (6, 5), (7, 6), (8, 1), (8, 7), (10, 9), (12, 11), (14, 13), (14, 12), (15, 14), (16, 15), (17, 16), (18, 10), (18, 17), (18, 8)] (fun x => ⟨#[.agg #[.int .u8 p0, .int .u8 p1, .int .u8 p2, .int .u8 p3, .int .u8 h, .int .u8 f0, .int .u8 f1, .int .u8 f2, .int .u8 f3, .bool o, .int .u8 c0, .int .u8 c1, .int .u8 w0, .int .u8 w1, .int .u8 w2, .int .u8 w3, .int .u8 w4], .pointer (some ⟨w.heap.size, 0, none⟩), .pointer (some ⟨(w.heap.size + 1), 0, none⟩), .pointer (some ⟨(w.heap.size + 1 + 1), 0, none⟩), .int .i64 4, .int .i64 1, .pointer (some ⟨w.heap.size, 4, none⟩), .int .u8 h, .int .i64 h, .int .i64 (40 + h), .pointer (some ⟨w.heap.size, 9, none⟩), .bool o, .agg #[.int .i64 30, .slice none 0 0, .int .i64 (40 + h), .slice none 0 0, .slice none 0 0, .int .i64 9, .bool o], .int .i64 4, .bool false, u15, u16, u17, u18, u19, u20, u21, u22, u23, u24, u25, u26, u27, .int .i64 1, .bool true, u30, u31, x 0, x 1, x 2, x 3, x 4, x 5, x 6, x 7, x 8, x 9, x 10, x 11, x 12, x 13, x 14, x 15, x 16, x 17, x 18, x 19, u52, undef, undef, undef, undef, undef], []⟩) (fun i => [u32, u33, u34, u35, u36, u37, u38, u39, u40, u41, u42, u43, u44, u45, u46, u47, u48, u49, u50, u51].getD i undef) [fun _ x => x = .pointer (some ⟨(w.heap.size + 1 + 1), 3, none⟩), fun _ x => x = s, fun _ x => x = .int .i64 1, fun _ x => x = .pointer (some ⟨w.heap.size, 5, none⟩), fun _ x => x = .pointer (some ⟨w.heap.size, 6, none⟩), fun _ x => x = .int .u8 f1, fun _ x => x = .int .i64 f1, fun v x => ∃ b, x = .slice (some ⟨b, 0, none⟩) 1 1 ∧ D ≤ b ∧ Box v b [.int .i64 f1], fun _ _ => True, fun _ x => x = .pointer (some ⟨(w.heap.size + 1 + 1), 4, none⟩), fun _ x => x = b, fun _ x => x = .int .i64 1, fun _ x => x = .int .i64 3, fun _ x => x = .pointer (some ⟨w.heap.size, 5, none⟩), fun _ x => x = .pointer (some ⟨w.heap.size, 8, none⟩), fun _ x => x = .int .u8 f3, fun _ x => x = .int .i64 f3, fun v x => ∃ b, x = .slice (some ⟨b, 0, none⟩) 1 1 ∧ D ≤ b ∧ Box v b [.int .i64 f3], fun _ _ => True, fun _ x => x = .pointer (some ⟨(w.heap.size + 1 + 1), 3, none⟩)] (fun v => Box v w.heap.size [.int .u8 p0, .int .u8 p1, .int .u8 p2, .int .u8 p3, .int .u8 h, .int .u8 f0, .int .u8 f1, .int .u8 f2, .int .u8 f3, .bool o, .int .u8 c0, .int .u8 c1, .int .u8 w0, .int .u8 w1, .int .u8 w2, .int .u8 w3, .int .u8 w4] ∧ Own v (w.heap.size + 1) [.int .i64 0, .slice none 0 0, .int .i64 0, .slice none 0 0, .slice none 0 0, .int .i64 0, .bool false] ∧ Own v (w.heap.size + 1 + 1) [.int .i64 30, (.slice a1 4 n1), .int .i64 (40 + h), s, b, .int .i64 9, .bool o] ∧ IRow v a1 [60 + p0, 60 + p1, 60 + p2, 60 + p3] ∧ D ≤ v.heap.size) (fun v => Gr w v ∧ v.ownsRow M 3 1 s 1 [.int .i64 f0] ∧ v.ownsRow M 3 1 b 1 [.int .i64 f2]) (fun v x => Gr w v ∧ v.ownsRow M 3 1 x 2 [.int .i64 f0, .int .i64 f1] ∧ v.ownsRow M 3 1 b 1 [.int .i64 f2] ∧ ApartS x b) (fun v x y => Gr w v ∧ v.ownsRow M 3 1 x 2 [.int .i64 f0, .int .i64 f1] ∧ v.ownsRow M 3 1 y 2 [.int .i64 f2, .int .i64 f3] ∧ ApartS x y) (by rfl) (by kernel_rfl) (by kernel_rfl) (by kernel_rfl) (by simp) (by omega) (by omega) (by omega) (staysZ_cons (StaysZ.eq _ _) (staysZ_cons (StaysZ.eq _ _) (staysZ_cons (StaysZ.eq _ _) (staysZ_cons (StaysZ.eq _ _) (staysZ_cons (StaysZ.eq _ _) (staysZ_cons (StaysZ.eq _ _) (staysZ_cons (StaysZ.eq _ _) (staysZ_cons (show StaysZ _ (fun v x => ∃ b, x = .slice (some ⟨b, 0, none⟩) 1 1 ∧ D ≤ b ∧ Box v b [.int .i64 f1]) from fun v v' x g ⟨b, h, h1, h2⟩ => ⟨b, h, h1, boxS_kx h2 g (by omega)⟩) (staysZ_cons (fun _ _ _ _ _ => trivial) (staysZ_cons (StaysZ.eq _ _) (staysZ_cons (StaysZ.eq _ _) (staysZ_cons (StaysZ.eq _ _) (staysZ_cons (StaysZ.eq _ _) (staysZ_cons (StaysZ.eq _ _) (staysZ_cons (StaysZ.eq _ _) (staysZ_cons (StaysZ.eq _ _) (staysZ_cons (StaysZ.eq _ _) (staysZ_cons (show StaysZ _ (fun v x => ∃ b, x = .slice (some ⟨b, 0, none⟩) 1 1 ∧ D ≤ b ∧ Box v b [.int .i64 f3]) from fun v v' x g ⟨b, h, h1, h2⟩ => ⟨b, h, h1, boxS_kx h2 g (by omega)⟩) (staysZ_cons (fun _ _ _ _ _ => trivial) (staysZ_cons (StaysZ.eq _ _) staysZ_nil))))))))))))))))))))
      (fun v v' g h => ⟨boxS_kx h.1 g (by omega), h.2.1.kx g (by omega), h.2.2.1.kx g (by omega), h.2.2.2.1.kx g (fun b f e h9 => by have := HM.out b f none e; omega), Nat.le_trans h.2.2.2.2 g.size⟩) (fun v v' g h => ⟨h.1.tr g, owns_keep h.2.1 g, owns_keep h.2.2 g⟩) (fun v v' x g h => ⟨h.1.tr g, owns_keep h.2.1 g, owns_keep h.2.2.1 g, h.2.2.2⟩) (fun v v' x y g h => ⟨h.1.tr g, owns_keep h.2.1 g, owns_keep h.2.2.1 g, h.2.2.2⟩) hC0 hS0 ?stepB ?ppB ?qqB ?finB
     case stepB =>
      rintro i hi np nq x v hc hd K hK
      have hi8 : i = 0 ∨ i = 1 ∨ i = 2 ∨ i = 3 ∨ i = 4 ∨ i = 5 ∨ i = 6 ∨ i = 7 ∨ i = 9 ∨ i = 10 ∨ i = 11 ∨ i = 12 ∨ i = 13 ∨ i = 14 ∨ i = 15 ∨ i = 16 ∨ i = 17 ∨ i = 19 := by omega
      rcases hi8 with rfl | rfl | rfl | rfl | rfl | rfl | rfl | rfl | rfl | rfl | rfl | rfl | rfl | rfl | rfl | rfl | rfl | rfl
      ·try dsimp only [upd, Nat.reduceBEq, cond_true, cond_false]
       refine wpOp_step rfl (fun K' hK' => ?_)
       go_simp
       exact hK' _ _ (hK _ _ (Below.refl _ _) (at_of rfl (rfl)))
      ·obtain ⟨x, rfl⟩ := upd_of (show x 0 = .pointer (some ⟨(w.heap.size + 1 + 1), 3, none⟩) from hd 0 _ (by simp) (by decide) (by decide) rfl)
       try dsimp only [upd, Nat.reduceBEq, cond_true, cond_false]
       have q := hc.2.2.1.1.2 3 _ rfl
       refine wpOp_step rfl (fun K' hK' => ?_)
       go_simp
       exact hK' _ _ (hK _ _ (Below.refl _ _) (at_of rfl (rfl)))
      ·try dsimp only [upd, Nat.reduceBEq, cond_true, cond_false]
       refine wpOp_step rfl (fun K' hK' => ?_)
       go_simp
       exact hK' _ _ (hK _ _ (Below.refl _ _) (at_of rfl (rfl)))
      ·try dsimp only [upd, Nat.reduceBEq, cond_true, cond_false]
       refine wpOp_step rfl (fun K' hK' => ?_)
       go_simp
       exact hK' _ _ (hK _ _ (Below.refl _ _) (at_of rfl (rfl)))
      ·obtain ⟨x, rfl⟩ := upd_of (show x 3 = .pointer (some ⟨w.heap.size, 5, none⟩) from hd 3 _ (by simp) (by decide) (by decide) rfl)
       obtain ⟨x, rfl⟩ := upd_of (show x 2 = .int .i64 1 from hd 2 _ (by simp) (by decide) (by decide) rfl)
       try dsimp only [upd, Nat.reduceBEq, cond_true, cond_false]
       refine wpOp_step rfl (fun K' hK' => ?_)
       go_simp
       exact hK' _ _ (hK _ _ (Below.refl _ _) (at_of rfl (rfl)))
      ·obtain ⟨x, rfl⟩ := upd_of (show x 4 = .pointer (some ⟨w.heap.size, 6, none⟩) from hd 4 _ (by simp) (by decide) (by decide) rfl)
       try dsimp only [upd, Nat.reduceBEq, cond_true, cond_false]
       have q := hc.1.2 6 _ rfl
       refine wpOp_step rfl (fun K' hK' => ?_)
       go_simp
       exact hK' _ _ (hK _ _ (Below.refl _ _) (at_of rfl (rfl)))
      ·obtain ⟨x, rfl⟩ := upd_of (show x 5 = .int .u8 f1 from hd 5 _ (by simp) (by decide) (by decide) rfl)
       try dsimp only [upd, Nat.reduceBEq, cond_true, cond_false]
       refine wpOp_step rfl (fun K' hK' => ?_)
       go_simp
       exact hK' _ _ (hK _ _ (Below.refl _ _) (at_of rfl (rfl)))
      ·obtain ⟨x, rfl⟩ := upd_of (show x 6 = .int .i64 f1 from hd 6 _ (by simp) (by decide) (by decide) rfl)
       try dsimp only [upd, Nat.reduceBEq, cond_true, cond_false]
       refine wpOp_step rfl (fun K' hK' => ?_)
       go_simp
       have gA := Gr.al v (.cells (List.toArray [.int .i64 f1]) 3)
       exact hK' _ _ (hK _ _ gA (at_of rfl ⟨v.heap.size, rfl, hc.2.2.2.2, Box.new v [.int .i64 f1] 3 v.heap.size rfl⟩))
      ·try dsimp only [upd, Nat.reduceBEq, cond_true, cond_false]
       refine wpOp_step rfl (fun K' hK' => ?_)
       go_simp
       exact hK' _ _ (hK _ _ (Below.refl _ _) (at_of rfl (rfl)))
      ·obtain ⟨x, rfl⟩ := upd_of (show x 9 = .pointer (some ⟨(w.heap.size + 1 + 1), 4, none⟩) from hd 9 _ (by simp) (by decide) (by decide) rfl)
       try dsimp only [upd, Nat.reduceBEq, cond_true, cond_false]
       have q := hc.2.2.1.1.2 4 _ rfl
       refine wpOp_step rfl (fun K' hK' => ?_)
       go_simp
       exact hK' _ _ (hK _ _ (Below.refl _ _) (at_of rfl (rfl)))
      ·try dsimp only [upd, Nat.reduceBEq, cond_true, cond_false]
       refine wpOp_step rfl (fun K' hK' => ?_)
       go_simp
       exact hK' _ _ (hK _ _ (Below.refl _ _) (at_of rfl (rfl)))
      ·obtain ⟨x, rfl⟩ := upd_of (show x 11 = .int .i64 1 from hd 11 _ (by simp) (by decide) (by decide) rfl)
       try dsimp only [upd, Nat.reduceBEq, cond_true, cond_false]
       refine wpOp_step rfl (fun K' hK' => ?_)
       go_simp
       exact hK' _ _ (hK _ _ (Below.refl _ _) (at_of rfl (rfl)))
      ·try dsimp only [upd, Nat.reduceBEq, cond_true, cond_false]
       refine wpOp_step rfl (fun K' hK' => ?_)
       go_simp
       exact hK' _ _ (hK _ _ (Below.refl _ _) (at_of rfl (rfl)))
      ·obtain ⟨x, rfl⟩ := upd_of (show x 13 = .pointer (some ⟨w.heap.size, 5, none⟩) from hd 13 _ (by simp) (by decide) (by decide) rfl)
       obtain ⟨x, rfl⟩ := upd_of (show x 12 = .int .i64 3 from hd 12 _ (by simp) (by decide) (by decide) rfl)
       try dsimp only [upd, Nat.reduceBEq, cond_true, cond_false]
       refine wpOp_step rfl (fun K' hK' => ?_)
       go_simp
       exact hK' _ _ (hK _ _ (Below.refl _ _) (at_of rfl (rfl)))
      ·obtain ⟨x, rfl⟩ := upd_of (show x 14 = .pointer (some ⟨w.heap.size, 8, none⟩) from hd 14 _ (by simp) (by decide) (by decide) rfl)
       try dsimp only [upd, Nat.reduceBEq, cond_true, cond_false]
       have q := hc.1.2 8 _ rfl
       refine wpOp_step rfl (fun K' hK' => ?_)
       go_simp
       exact hK' _ _ (hK _ _ (Below.refl _ _) (at_of rfl (rfl)))
      ·obtain ⟨x, rfl⟩ := upd_of (show x 15 = .int .u8 f3 from hd 15 _ (by simp) (by decide) (by decide) rfl)
       try dsimp only [upd, Nat.reduceBEq, cond_true, cond_false]
       refine wpOp_step rfl (fun K' hK' => ?_)
       go_simp
       exact hK' _ _ (hK _ _ (Below.refl _ _) (at_of rfl (rfl)))
      ·obtain ⟨x, rfl⟩ := upd_of (show x 16 = .int .i64 f3 from hd 16 _ (by simp) (by decide) (by decide) rfl)
       try dsimp only [upd, Nat.reduceBEq, cond_true, cond_false]
       refine wpOp_step rfl (fun K' hK' => ?_)
       go_simp
       have gA := Gr.al v (.cells (List.toArray [.int .i64 f3]) 3)
       exact hK' _ _ (hK _ _ gA (at_of rfl ⟨v.heap.size, rfl, hc.2.2.2.2, Box.new v [.int .i64 f3] 3 v.heap.size rfl⟩))
      ·try dsimp only [upd, Nat.reduceBEq, cond_true, cond_false]
       refine wpOp_step rfl (fun K' hK' => ?_)
       go_simp
       exact hK' _ _ (hK _ _ (Below.refl _ _) (at_of rfl (rfl)))
     case ppB =>
      rintro x v hc ⟨gv, o1, o2⟩ hd K hK
      obtain ⟨x, rfl⟩ := upd_of (show x 1 = s from hd 1 _ (by simp) (by decide) (by decide) rfl)
      obtain ⟨t7, e7, hb7, hx7⟩ := hd 7 _ (by simp) (by decide) (by decide) rfl
      obtain ⟨x, rfl⟩ := upd_of (show x 7 = .slice (some ⟨t7, 0, none⟩) 1 1 from e7)
      try dsimp only [upd, Nat.reduceBEq, cond_true, cond_false]
      refine wpOp_step rfl (fun K' hK' => ?_)
      refine step_append_lies _ (by rfl) _ _ 22 (by rfl) M 3 i0 (.int .i64 0) 1 8 Try.underlying22 hi hz0 hz1 hz2 rfl (by decide) s 1 _ (by rfl) o1 ⟨t7, 0, none⟩ 1 1 ([f1].map (fun n => Value.int .i64 n)) (by rfl) (by rfl) (fun j u hu => by have := hx7.2 j u hu; unfold Addr.add; split <;> simp_all) (ints_one _) (by omega) (by unfold maxLen; omega) (by omega) ?_ _ rfl ?_
      ·have := hc.2.2.2.2
       omega
      intro g cp y4 o4 hg4 ha4 hl4
      have hkx : Kx (fun r => M ≤ r ∧ r < D) v y4 := Kx.grown hg4 (fun r e => .inl (hsD r e))
      have gY := gv.grown' o1 (by omega) hg4
      have hap4 : ApartS (.slice (some ⟨g, 0, none⟩) (1 + 1) cp) b := (ApartS.after (ApartS.symm hap) ha4 (fun r e => (o2.lt r e).2)).symm
      exact hK' _ _ (hK _ _ hkx ⟨gY, o4, owns_apartS o2 hg4 (ApartS.symm hap), hap4⟩)
     case qqB =>
      rintro x v hc ⟨gv, o1, o2, hap1⟩ hd K hK
      obtain ⟨g1, hg1⟩ : ∃ r, x 8 = r := ⟨_, rfl⟩
      rw [hg1] at o1 hap1 hK
      obtain ⟨x, rfl⟩ := upd_of hg1
      obtain ⟨x, rfl⟩ := upd_of (show x 10 = b from hd 10 _ (by simp) (by decide) (by decide) rfl)
      obtain ⟨t17, e17, hb17, hx17⟩ := hd 17 _ (by simp) (by decide) (by decide) rfl
      obtain ⟨x, rfl⟩ := upd_of (show x 17 = .slice (some ⟨t17, 0, none⟩) 1 1 from e17)
      try dsimp only [upd, Nat.reduceBEq, cond_true, cond_false]
      refine wpOp_step rfl (fun K' hK' => ?_)
      refine step_append_lies _ (by rfl) _ _ 22 (by rfl) M 3 i0 (.int .i64 0) 1 8 Try.underlying22 hi hz0 hz1 hz2 rfl (by decide) b 1 _ (by rfl) o2 ⟨t17, 0, none⟩ 1 1 ([f3].map (fun n => Value.int .i64 n)) (by rfl) (by rfl) (fun j u hu => by have := hx17.2 j u hu; unfold Addr.add; split <;> simp_all) (ints_one _) (by omega) (by unfold maxLen; omega) (by omega) ?_ _ rfl ?_
      ·have := hc.2.2.2.2
       omega
      intro g cp y4 o4 hg4 ha4 hl4
      have hkx : Kx (fun r => M ≤ r ∧ r < D) v y4 := Kx.grown hg4 (fun r e => .inl (hbD r e))
      have gY := gv.grown' o2 (by omega) hg4
      have hap4 : ApartS g1 (.slice (some ⟨g, 0, none⟩) (1 + 1) cp) := ApartS.after hap1 ha4 (fun r e => (o1.lt r e).2)
      exact hK' _ _ (hK _ _ hkx ⟨gY, owns_apartS o1 hg4 hap1, o4, hap4⟩)
     case finB =>
      rintro x v hc ⟨gv, o1, o2, hap1⟩ hd
      obtain ⟨x, rfl⟩ := upd_of (show x 19 = .pointer (some ⟨(w.heap.size + 1 + 1), 3, none⟩) from hd 19 _ (by omega) (by decide) (by decide) rfl)
      clear hd
      obtain ⟨g1, hg1⟩ : ∃ r, upd x 19 (.pointer (some ⟨(w.heap.size + 1 + 1), 3, none⟩)) 8 = r := ⟨_, rfl⟩
      obtain ⟨g2, hg2⟩ : ∃ r, upd x 19 (.pointer (some ⟨(w.heap.size + 1 + 1), 3, none⟩)) 18 = r := ⟨_, rfl⟩
      rw [hg1, hg2] at hap1
      rw [hg1] at o1
      rw [hg2] at o2
      rw [upd_ne _ _ (by decide)] at hg1 hg2
      obtain ⟨x, rfl⟩ := upd_of hg1
      obtain ⟨x, rfl⟩ := upd_of (show x 18 = g2 from by rw [← hg2, upd_ne]; decide)
      show wpList Try.prog _ _ (List.drop 20 _) (⟨#[_, _, _, _, _, _, _, _, _, _, _, _, _, _, _, _, _, _, _, _, _, _, _, _, _, _, _, _, _, _, _, _, x 0, x 1, x 2, x 3, x 4, x 5, x 6, x 7, g1, x 9, x 10, x 11, x 12, x 13, x 14, x 15, x 16, x 17, g2, .pointer (some ⟨(w.heap.size + 1 + 1), 3, none⟩), _, _, _, _, _, _], []⟩ : Act) v
      simp only [List.drop_succ_cons, List.drop_zero]
      obtain ⟨h1, h2, h3, r1, lZ⟩ := hc
      have s1 := h3.1.2 3 _ rfl
      have s2 := h3.1.2 4 _ rfl
      have z1 := h3.2 3
      have z2 := h3.2 4
      clear k0 k1 hC0 hS0
      clear hg1 hg2
      obtain ⟨_, _, rfl, _, _⟩ := o1.form (by omega)
      obtain ⟨_, _, rfl, _, _⟩ := o2.form (by omega)
      go_wp2
      go_roundw
      case rel =>
       refine Lib.hid ⟨_, _, (gv.setCell (p := ⟨(w.heap.size + 1 + 1), 3, none⟩) (show w.heap.size ≤ w.heap.size + 1 + 1 by omega) _).setCell (p := ⟨(w.heap.size + 1 + 1), 4, none⟩) (show w.heap.size ≤ w.heap.size + 1 + 1 by omega) _, (h1.other (by omega)).other (by omega), (h2.other (by omega)).other (by omega), (h3.set (i := 3) (by simp)).set (i := 4) (by simp), ?_, ?_, hap1, .inr (.inr (⟨rfl, owns_other (owns_other o1 (by omega)) (by omega), owns_other (owns_other o2 (by omega)) (by omega)⟩))⟩
       ·have : M ≤ v.heap.size := by omega
        simpa using this
       ·have hm : NewAt N a1 := M1.out
        exact (r1.other hm (by omega)).other hm (by omega)
      case measure => simp [intOf]
    ·obtain ⟨a2, n2, hv2, r2, m2⟩ := owns_row_new (enc := encI) (l := [f0, f1]) (fun _ => rfl) (by simp) hs
     obtain ⟨a3, n3, hv3, r3, m3⟩ := owns_row_new (enc := encI) (l := [f2, f3]) (fun _ => rfl) (by simp) hb
     subst hv2
     subst hv3
     have h3 : Own wr (w.heap.size + 1 + 1) [.int .i64 30, (.slice a1 4 n1), .int .i64 (40 + h), (.slice a2 2 n2), (.slice a3 2 n3), .int .i64 9, .bool o] := h3
     have HR1 := Lib.hid r1
     have HR2 := Lib.hid r2
     have HR3 := Lib.hid r3
     have HM1 := Lib.hid (show NewAt N a1 from M1.out)
     have HM2 := Lib.hid (m2.le lM)
     have HM3 := Lib.hid (m3.le lM)
     clear r1 r2 r3 m2 m3 hs hb hap
     obtain ⟨s0, s1, s2, s3, s4, s5, s6⟩ := h3.1.c7
     have z3 := h3.2 3
     obtain ⟨y0, y1, y2, y3, y4, y5, y6⟩ := h2.1.c7
     have x0 := h2.2 0
     have x1 := h2.2 1
     have x2 := h2.2 2
     have x3 := h2.2 3
     have x4 := h2.2 4
     have x5 := h2.2 5
     have x6 := h2.2 6
     have q9 := h1.2 9 _ rfl
     have hgr : w.heap.size + 1 + 1 < wr.heap.size := h3.1.1
     have hle : w.heap.size ≤ w.heap.size + 1 := Nat.le_succ _
     have hle3 : w.heap.size ≤ w.heap.size + 1 + 1 := by omega
     have hbN : w.heap.size + 1 < N := by omega
     have hbN3 : w.heap.size + 1 + 1 < N := by omega
     have n23 : w.heap.size + 1 ≠ w.heap.size + 1 + 1 := by omega
     clear hp0 hp1 hp2 hp3 hf0 hf1 hf2 hf3 HM u0 u1 lM lX lN h1 hi hz0 hz1 hz2
     cases o
     case false =>
      clear h2 h3
      go_wp2
      refine bodyPost_ret (v := .agg #[.int .i64 30, .slice a1 4 n1, .int .i64 (40 + h), .slice a2 2 n2, .slice a3 2 n3, .int .i64 9, .bool false]) (by simp [results, Try.results39, go_sem, y0, y1, y2, y3, y4, y5, y6]) rfl ⟨_, _, _, _, _, _, rfl, ?_, ?_, ?_, ?_, ?_⟩
      ·exact (((((((gX.setCell (p := ⟨(w.heap.size + 1), 0, none⟩) hle _).setCell (p := ⟨(w.heap.size + 1), 1, none⟩) hle _).setCell (p := ⟨(w.heap.size + 1), 2, none⟩) hle _).setCell (p := ⟨(w.heap.size + 1), 3, none⟩) hle _).setCell (p := ⟨(w.heap.size + 1), 4, none⟩) hle _).setCell (p := ⟨(w.heap.size + 1), 5, none⟩) hle _).setCell (p := ⟨(w.heap.size + 1), 6, none⟩) hle _)
      ·exact (((((((HR1.out.other HM1.out hbN).other HM1.out hbN).other HM1.out hbN).other HM1.out hbN).other HM1.out hbN).other HM1.out hbN).other HM1.out hbN)
      ·exact (((((((HR2.out.other HM2.out hbN).other HM2.out hbN).other HM2.out hbN).other HM2.out hbN).other HM2.out hbN).other HM2.out hbN).other HM2.out hbN)
      ·exact (((((((HR3.out.other HM3.out hbN).other HM3.out hbN).other HM3.out hbN).other HM3.out hbN).other HM3.out hbN).other HM3.out hbN).other HM3.out hbN)
      ·have hN0 : w.heap.size ≤ N := by omega
       exact ⟨HM1.out.le hN0, HM2.out.le hN0, HM3.out.le hN0⟩
     case true =>
      clear s0 s1 s2 s3 s4 s5 s6 z3 y0 y1 y2 y3 y4 y5 y6 x0 x1 x2 x3 x4 x5 x6
      have s3 := h3.1.2 3 _ rfl
      have z3 := h3.2 3
      go_upto_region 12 with fail
      obtain ⟨T, hTT⟩ : ∃ T, wr.heap.size = T := ⟨_, rfl⟩
      rw [hTT]
      have hmT : NewAt (w.heap.size + 1 + 1 + 1) (some (⟨T, 0, none⟩ : Addr)) := fun b f c e => by
       cases e
       have := hgr
       omega
      refine wp_abs (fun Y => Gr w Y ∧ Own Y (w.heap.size + 1) [.int .i64 0, .slice none 0 0, .int .i64 0, .slice none 0 0, .slice none 0 0, .int .i64 0, .bool false] ∧ Own Y (w.heap.size + 1 + 1) [.int .i64 30, (.slice a1 4 n1), .int .i64 (40 + h), (.slice (some ⟨T, 0, none⟩) 2 2), (.slice a3 2 n3), .int .i64 9, .bool true] ∧ IRow Y a1 [60 + p0, 60 + p1, 60 + p2, 60 + p3] ∧ IRow Y (some ⟨T, 0, none⟩) [0, 0] ∧ IRow Y a3 [f2, f3]) ⟨Gr.tr (gX.setCell (p := ⟨w.heap.size + 1 + 1, 3, none⟩) hle3 _) (Gr.al _ _), (h2.other n23).keep (Gr.al _ _), (h3.set (i := 3) (by simp)).keep (Gr.al _ _), (HR1.out.other HM1.out hbN3).grow (Gr.al _ _), IRow.new' _ 3 [0, 0] (by simp) T (by simp [hTT]) _ rfl, (HR3.out.other HM3.out hbN3).grow (Gr.al _ _)⟩ ?_
      clear gX h2 h3 s3 z3 HR1 HR2 HR3
      rintro Y ⟨gX, h2, h3, r1, rT, r3⟩
      have HR1 := Lib.hid r1
      have HR2 := Lib.hid rT
      have HR3 := Lib.hid r3
      have HMT := Lib.hid hmT
      clear r1 rT r3 hmT
      obtain ⟨s0, s1, s2, s3, s4, s5, s6⟩ := h3.1.c7
      obtain ⟨y0, y1, y2, y3, y4, y5, y6⟩ := h2.1.c7
      have x0 := h2.2 0
      have x1 := h2.2 1
      have x2 := h2.2 2
      have x3 := h2.2 3
      have x4 := h2.2 4
      have x5 := h2.2 5
      have x6 := h2.2 6
      clear h2 h3
      go_wp2
      refine bodyPost_ret (v := .agg #[.int .i64 30, (.slice a1 4 n1), .int .i64 (40 + h), (.slice (some ⟨T, 0, none⟩) 2 2), (.slice a3 2 n3), .int .i64 9, .bool true]) (by simp [results, Try.results39, go_sem, y0, y1, y2, y3, y4, y5, y6]) rfl ⟨_, _, _, _, _, _, rfl, ?_, ?_, ?_, ?_, ?_⟩
      ·exact (((((((gX.setCell (p := ⟨(w.heap.size + 1), 0, none⟩) hle _).setCell (p := ⟨(w.heap.size + 1), 1, none⟩) hle _).setCell (p := ⟨(w.heap.size + 1), 2, none⟩) hle _).setCell (p := ⟨(w.heap.size + 1), 3, none⟩) hle _).setCell (p := ⟨(w.heap.size + 1), 4, none⟩) hle _).setCell (p := ⟨(w.heap.size + 1), 5, none⟩) hle _).setCell (p := ⟨(w.heap.size + 1), 6, none⟩) hle _)
      ·exact (((((((HR1.out.other HM1.out hbN).other HM1.out hbN).other HM1.out hbN).other HM1.out hbN).other HM1.out hbN).other HM1.out hbN).other HM1.out hbN)
      ·exact (((((((HR2.out.other HMT.out (by omega)).other HMT.out (by omega)).other HMT.out (by omega)).other HMT.out (by omega)).other HMT.out (by omega)).other HMT.out (by omega)).other HMT.out (by omega))
      ·exact (((((((HR3.out.other HM3.out hbN).other HM3.out hbN).other HM3.out hbN).other HM3.out hbN).other HM3.out hbN).other HM3.out hbN).other HM3.out hbN)
      ·have hN0 : w.heap.size ≤ N := by omega
       exact ⟨HM1.out.le hN0, HMT.out.le (by omega), HM3.out.le hN0⟩

end Go.Proofs.Ytoihnilgmdcndaa

namespace Go.Proofs.Ytoihnilgmdcndaa
set_option linter.unusedVariables false
set_option linter.unusedSimpArgs false
open Go.RowKit

set_option maxRecDepth 100000 in
theorem sheetCal_any (p0 p1 p2 p3 h f0 f1 f2 f3 : Int) (o : Bool) (c0 c1 w0 w1 w2 w3 w4 : Int) (hc0 : By c0) (hc1 : By c1) (w : World) :
  Calls Try.prog 40 #[.agg #[.int .u8 p0, .int .u8 p1, .int .u8 p2, .int .u8 p3, .int .u8 h, .int .u8 f0, .int .u8 f1, .int .u8 f2, .int .u8 f3, .bool o, .int .u8 c0, .int .u8 c1, .int .u8 w0, .int .u8 w1, .int .u8 w2, .int .u8 w3, .int .u8 w4]] w fun e w' => e = .returned (.agg #[.int .i64 (1500 + 20 * c0), .int .i64 (1500 + 20 * c0 + 2 * c1)]) ∧ Gr w w' := by
 have gg := (Gr.al w (.cells #[.int .u8 p0, .int .u8 p1, .int .u8 p2, .int .u8 p3, .int .u8 h, .int .u8 f0, .int .u8 f1, .int .u8 f2, .int .u8 f3, .bool o, .int .u8 c0, .int .u8 c1, .int .u8 w0, .int .u8 w1, .int .u8 w2, .int .u8 w3, .int .u8 w4] 69)).tr (Gr.al _ (.cells #[.int .i64 0, .int .i64 0] 37))
 have h1 := (Box.new w [.int .u8 p0, .int .u8 p1, .int .u8 p2, .int .u8 p3, .int .u8 h, .int .u8 f0, .int .u8 f1, .int .u8 f2, .int .u8 f3, .bool o, .int .u8 c0, .int .u8 c1, .int .u8 w0, .int .u8 w1, .int .u8 w2, .int .u8 w3, .int .u8 w4] 69 w.heap.size rfl).keep (Gr.al _ (.cells #[.int .i64 0, .int .i64 0] 37))
 have h2 := Own.new (w.alloc (.cells #[.int .u8 p0, .int .u8 p1, .int .u8 p2, .int .u8 p3, .int .u8 h, .int .u8 f0, .int .u8 f1, .int .u8 f2, .int .u8 f3, .bool o, .int .u8 c0, .int .u8 c1, .int .u8 w0, .int .u8 w1, .int .u8 w2, .int .u8 w3, .int .u8 w4] 69)) [.int .i64 0, .int .i64 0] 37 (w.heap.size + 1) (by simp)
 have q0 := h1.2 10 _ rfl
 have q1 := h1.2 11 _ rfl
 obtain ⟨u0, u1⟩ := hc0
 obtain ⟨u2, u3⟩ := hc1
 have k0 : IntKind.i64.wrap c0 = c0 := IntWalk.i64_in _ (by omega)
 have k1 : IntKind.i64.wrap c1 = c1 := IntWalk.i64_in _ (by omega)
 have k2 : IntKind.i64.wrap (20 * c0) = 20 * c0 := IntWalk.i64_in _ (by omega)
 have k3 : IntKind.i64.wrap (1500 + 20 * c0) = 1500 + 20 * c0 := IntWalk.i64_in _ (by omega)
 have k4 : IntKind.i64.wrap (2 * c1) = 2 * c1 := IntWalk.i64_in _ (by omega)
 have k5 : IntKind.i64.wrap (1500 + 20 * c0 + 2 * c1) = 1500 + 20 * c0 + 2 * c1 := IntWalk.i64_in _ (by omega)
 have hle : w.heap.size ≤ w.heap.size + 1 := Nat.le_succ _
 go_enter Try.func40, Try.ntmps40
 go_wp2_with (go_at_call 26; refine (span02_any _ _ _).mono ?_; rintro e w1 ⟨rfl, g1⟩; replace gg := gg.tr g1; replace h2 := h2.keep g1; clear q0 q1; obtain ⟨r0, r1⟩ := h2.1.c2; have z0 := h2.2 0; have z1 := h2.2 1)
 refine bodyPost_ret (v := .agg #[.int .i64 (1500 + 20 * c0), .int .i64 (1500 + 20 * c0 + 2 * c1)]) (by simp [results, Try.results40, go_sem, r0, r1]) rfl ⟨rfl, ?_⟩
 exact (gg.setCell hle _).setCell hle _

theorem up_pos (n : Int) (h0 : 0 ≤ n) (h1 : n ≤ 1000000000) (w : World) : Calls Try.prog 87 #[.int .i64 n] w fun e w' => e = .returned (.int .i64 ((n + 999) / 1000)) ∧ Gr w w' := by
 have k0 : IntKind.i64.wrap (n + 999) = n + 999 := IntWalk.i64_in _ (by omega)
 have k1 : (n + 999).tdiv 1000 = (n + 999) / 1000 := Int.tdiv_eq_ediv_of_nonneg (by omega)
 have k2 : IntKind.i64.wrap ((n + 999) / 1000) = (n + 999) / 1000 := IntWalk.i64_in _ (by omega)
 have k3 : ¬ n < 0 := by omega
 go_enter Try.func87, Try.ntmps87
 go_wp2
 go_ret
 exact ⟨rfl, Below.refl _ _⟩

theorem down_pos (n : Int) (h0 : 0 ≤ n) (h1 : n ≤ 1000000000) (w : World) : Calls Try.prog 49 #[.int .i64 n] w fun e w' => e = .returned (.int .i64 (n / 1000)) ∧ Gr w w' := by
 have k1 : n.tdiv 1000 = n / 1000 := Int.tdiv_eq_ediv_of_nonneg (by omega)
 have k2 : IntKind.i64.wrap (n / 1000) = n / 1000 := IntWalk.i64_in _ (by omega)
 have k3 : ¬ n < 0 := by omega
 go_enter Try.func49, Try.ntmps49
 go_wp2
 go_ret
 exact ⟨rfl, Below.refl _ _⟩

theorem down_any (n : Int) (h0 : -1000000000 ≤ n) (h1 : n ≤ 1000000000) (w : World) : Calls Try.prog 49 #[.int .i64 n] w fun e w' => e = .returned (.int .i64 (n / 1000)) ∧ Gr w w' := by
 by_cases hn : n < 0
 ·obtain ⟨m, hm⟩ : ∃ m, (-n + 999) / 1000 = m := ⟨_, rfl⟩
  have k0 : IntKind.i64.wrap (-n) = -n := IntWalk.i64_in _ (by omega)
  have k1 : IntKind.i64.wrap (-m) = -m := IntWalk.i64_in _ (by omega)
  have E := Lib.hid (show -m = n / 1000 by omega)
  have HM := Lib.hid hm
  clear hm
  go_enter Try.func49, Try.ntmps49
  go_wp2_with (go_at_call 87; refine (up_pos (-n) (by omega) (by omega) _).mono ?_; rintro e w1 ⟨rfl, g1⟩; rw [HM.out])
  go_ret
  exact ⟨ret_int E.out, g1⟩
 ·exact down_pos n (by omega) h1 w

theorem up_any (n : Int) (h0 : -1000000000 ≤ n) (h1 : n ≤ 1000000000) (w : World) : Calls Try.prog 87 #[.int .i64 n] w fun e w' => e = .returned (.int .i64 ((n + 999) / 1000)) ∧ Gr w w' := by
 by_cases hn : n < 0
 ·obtain ⟨m, hm⟩ : ∃ m, -n / 1000 = m := ⟨_, rfl⟩
  have k0 : IntKind.i64.wrap (-n) = -n := IntWalk.i64_in _ (by omega)
  have k1 : IntKind.i64.wrap (-m) = -m := IntWalk.i64_in _ (by omega)
  have E := Lib.hid (show -m = (n + 999) / 1000 by omega)
  have HM := Lib.hid hm
  clear hm
  go_enter Try.func87, Try.ntmps87
  go_wp2_with (go_at_call 49; refine (down_pos (-n) (by omega) (by omega) _).mono ?_; rintro e w1 ⟨rfl, g1⟩; rw [HM.out])
  go_ret
  exact ⟨ret_int E.out, g1⟩
 ·exact up_pos n (by omega) h1 w

def micH (hei : Int) (opn : Bool) (c : Int) : Int := if opn = true then 1000 * hei - 2 * c + c else 1000 * hei - 2 * c

theorem Box.c9 {w : World} {b : Nat} {x0 x1 x2 x3 x4 x5 x6 x7 x8 : Value} (h : Box w b [x0, x1, x2, x3, x4, x5, x6, x7, x8]) : w.cell? ⟨b, 0, none⟩ = some x0 ∧ w.cell? ⟨b, 1, none⟩ = some x1 ∧ w.cell? ⟨b, 2, none⟩ = some x2 ∧ w.cell? ⟨b, 3, none⟩ = some x3 ∧ w.cell? ⟨b, 4, none⟩ = some x4 ∧ w.cell? ⟨b, 5, none⟩ = some x5 ∧ w.cell? ⟨b, 6, none⟩ = some x6 ∧ w.cell? ⟨b, 7, none⟩ = some x7 ∧ w.cell? ⟨b, 8, none⟩ = some x8 :=
 ⟨h.2 0 _ rfl, h.2 1 _ rfl, h.2 2 _ rfl, h.2 3 _ rfl, h.2 4 _ rfl, h.2 5 _ rfl, h.2 6 _ rfl, h.2 7 _ rfl, h.2 8 _ rfl⟩

set_option maxRecDepth 100000 in
set_option maxHeartbeats 8000000 in
theorem micros_any (tab hei slo : Int) (p0 p1 p2 p3 t0 t1 s0 s1 : Int) (pa ta ba : Option Addr) (pc tc bc : Nat) (opn : Bool) (c : Int) (hB : inB 0 100000 [p0, p1, p2, p3, t0, t1, s0, s1, hei, c] = true) (w : World) (hp : IRow w pa [p0, p1, p2, p3]) (ht : IRow w ta [t0, t1]) (hb : IRow w ba [s0, s1]) :
  Calls Try.prog 44 #[.agg #[.int .i64 tab, .slice pa 4 pc, .int .i64 hei, .slice ta 2 tc, .slice ba 2 bc, .int .i64 slo, .bool opn], .int .i64 c] w fun e w' => e = .returned (.agg #[.int .i64 (1000 * p0 - c), .int .i64 (1000 * p1 - c), .int .i64 (1000 * p2 - c), .int .i64 (1000 * p3 - c), .int .i64 (micH hei opn c), .int .i64 (1000 * p1 - c - 2000 * t0), .int .i64 (1000 * p0 - c - 2000 * t1), .int .i64 (1000 * p1 - c - 2000 * s0), .int .i64 (1000 * p0 - c - 2000 * s1)]) ∧ Gr w w' := by
 have gg := ((Gr.al w (.cells #[.int .i64 tab, .slice pa 4 pc, .int .i64 hei, .slice ta 2 tc, .slice ba 2 bc, .int .i64 slo, .bool opn] 24)).tr (Gr.al _ (.cells #[.int .i64 0, .int .i64 0, .int .i64 0, .int .i64 0, .int .i64 0, .int .i64 0, .int .i64 0, .int .i64 0, .int .i64 0] 78))).tr (Gr.al _ (.cells #[.int .i64 0, .int .i64 0, .int .i64 0, .int .i64 0, .int .i64 0, .int .i64 0, .int .i64 0, .int .i64 0, .int .i64 0] 78))
 have h1 := (Box.new w [.int .i64 tab, .slice pa 4 pc, .int .i64 hei, .slice ta 2 tc, .slice ba 2 bc, .int .i64 slo, .bool opn] 24 w.heap.size rfl).keep ((Gr.al _ (.cells #[.int .i64 0, .int .i64 0, .int .i64 0, .int .i64 0, .int .i64 0, .int .i64 0, .int .i64 0, .int .i64 0, .int .i64 0] 78)).tr (Gr.al _ (.cells #[.int .i64 0, .int .i64 0, .int .i64 0, .int .i64 0, .int .i64 0, .int .i64 0, .int .i64 0, .int .i64 0, .int .i64 0] 78)))
 have h2 := (Own.new (w.alloc (.cells #[.int .i64 tab, .slice pa 4 pc, .int .i64 hei, .slice ta 2 tc, .slice ba 2 bc, .int .i64 slo, .bool opn] 24)) [.int .i64 0, .int .i64 0, .int .i64 0, .int .i64 0, .int .i64 0, .int .i64 0, .int .i64 0, .int .i64 0, .int .i64 0] 78 (w.heap.size + 1) (by simp)).keep (Gr.al _ (.cells #[.int .i64 0, .int .i64 0, .int .i64 0, .int .i64 0, .int .i64 0, .int .i64 0, .int .i64 0, .int .i64 0, .int .i64 0] 78))
 have h3 := Own.new ((w.alloc (.cells #[.int .i64 tab, .slice pa 4 pc, .int .i64 hei, .slice ta 2 tc, .slice ba 2 bc, .int .i64 slo, .bool opn] 24)).alloc (.cells #[.int .i64 0, .int .i64 0, .int .i64 0, .int .i64 0, .int .i64 0, .int .i64 0, .int .i64 0, .int .i64 0, .int .i64 0] 78)) [.int .i64 0, .int .i64 0, .int .i64 0, .int .i64 0, .int .i64 0, .int .i64 0, .int .i64 0, .int .i64 0, .int .i64 0] 78 (w.heap.size + 1 + 1) (by simp)
 obtain ⟨pb, pf, rfl, lp, _⟩ := IRow.get hp (j := 0) rfl
 obtain ⟨tb, tf, rfl, lt, _⟩ := IRow.get ht (j := 0) rfl
 obtain ⟨bb, bf, rfl, lb, _⟩ := IRow.get hb (j := 0) rfl
 simp only [inB, in1, List.all_cons, List.all_nil, Bool.and_true, Bool.and_eq_true, decide_eq_true_eq] at hB
 obtain ⟨⟨a0, b0⟩, ⟨a1, b1⟩, ⟨a2, b2⟩, ⟨a3, b3⟩, ⟨a4, b4⟩, ⟨a5, b5⟩, ⟨a6, b6⟩, ⟨a7, b7⟩, ⟨a8, b8⟩, ⟨a9, b9⟩⟩ := hB
 have hle2 : w.heap.size ≤ w.heap.size + 1 := Nat.le_succ _
 have hle3 : w.heap.size ≤ w.heap.size + 1 + 1 := by omega
 have n23 : w.heap.size + 1 ≠ w.heap.size + 1 + 1 := by omega
 have n13 : w.heap.size ≠ w.heap.size + 1 + 1 := by omega
 go_enter Try.func44, Try.ntmps44
 go_upto_region 2 with fail
 refine wp_abs (fun X => Gr w X ∧ Box X w.heap.size [.int .i64 tab, .slice (some ⟨pb, pf, none⟩) 4 pc, .int .i64 hei, .slice (some ⟨tb, tf, none⟩) 2 tc, .slice (some ⟨bb, bf, none⟩) 2 bc, .int .i64 slo, .bool opn] ∧ Own X (w.heap.size + 1) [.int .i64 0, .int .i64 0, .int .i64 0, .int .i64 0, .int .i64 0, .int .i64 0, .int .i64 0, .int .i64 0, .int .i64 0] ∧ Own X (w.heap.size + 1 + 1) [.int .i64 0, .int .i64 0, .int .i64 0, .int .i64 0, .int .i64 0, .int .i64 0, .int .i64 0, .int .i64 0, .int .i64 0]) ⟨gg, h1, h2, h3⟩ ?_
 clear gg h1 h2 h3
 rintro X ⟨gX, h1, h2, h3⟩
 go_wp2
 go_loopw [6] (fun t wr => Hid (Gr w wr ∧ Box wr w.heap.size [.int .i64 tab, .slice (some ⟨pb, pf, none⟩) 4 pc, .int .i64 hei, .slice (some ⟨tb, tf, none⟩) 2 tc, .slice (some ⟨bb, bf, none⟩) 2 bc, .int .i64 slo, .bool opn] ∧ Own wr (w.heap.size + 1) [.int .i64 0, .int .i64 0, .int .i64 0, .int .i64 0, .int .i64 0, .int .i64 0, .int .i64 0, .int .i64 0, .int .i64 0] ∧ ((t = .int .i64 0 ∧ Own wr (w.heap.size + 1 + 1) [.int .i64 0, .int .i64 0, .int .i64 0, .int .i64 0, .int .i64 0, .int .i64 0, .int .i64 0, .int .i64 0, .int .i64 0]) ∨ (t = .int .i64 1 ∧ Own wr (w.heap.size + 1 + 1) [.int .i64 (1000 * p0 - c), .int .i64 0, .int .i64 0, .int .i64 0, .int .i64 0, .int .i64 0, .int .i64 0, .int .i64 0, .int .i64 0]) ∨ (t = .int .i64 2 ∧ Own wr (w.heap.size + 1 + 1) [.int .i64 (1000 * p0 - c), .int .i64 (1000 * p1 - c), .int .i64 0, .int .i64 0, .int .i64 0, .int .i64 0, .int .i64 0, .int .i64 0, .int .i64 0]) ∨ (t = .int .i64 3 ∧ Own wr (w.heap.size + 1 + 1) [.int .i64 (1000 * p0 - c), .int .i64 (1000 * p1 - c), .int .i64 (1000 * p2 - c), .int .i64 0, .int .i64 0, .int .i64 0, .int .i64 0, .int .i64 0, .int .i64 0]) ∨ (t = .int .i64 4 ∧ Own wr (w.heap.size + 1 + 1) [.int .i64 (1000 * p0 - c), .int .i64 (1000 * p1 - c), .int .i64 (1000 * p2 - c), .int .i64 (1000 * p3 - c), .int .i64 0, .int .i64 0, .int .i64 0, .int .i64 0, .int .i64 0])))) (fun t _ => 4 - (intOf t).toNat)
 case atStart => exact Lib.hid ⟨gX, h1, h2, .inl ⟨rfl, h3⟩⟩
 case round =>
  clear gX h1 h2 h3
  obtain ⟨gX, h1, h2, hx⟩ := hrel.out
  clear hrel
  rcases hx with ⟨rfl, h3⟩ | ⟨rfl, h3⟩ | ⟨rfl, h3⟩ | ⟨rfl, h3⟩ | ⟨rfl, h3⟩
  ·have q1 := h1.2 1 _ rfl
   obtain ⟨_, _, e9, _, c9⟩ := IRow.get (hp.grow gX) (j := 0) rfl
   cases e9
   try simp only [Nat.add_zero] at c9
   have z0 := h3.2 0
   have q3 := h3.1.2 0 _ rfl
   have k0 : IntKind.i64.wrap (1000 * p0) = 1000 * p0 := IntWalk.i64_in _ (by omega)
   have k1 : IntKind.i64.wrap (1000 * p0 - c) = 1000 * p0 - c := IntWalk.i64_in _ (by omega)
   go_wp2
   go_roundw
   case rel => exact Lib.hid ⟨gX.setCell (p := ⟨w.heap.size + 1 + 1, 0, none⟩) hle3 _, Box.other h1 n13, h2.other n23, .inr (.inl ⟨rfl, h3.set (i := 0) (by simp)⟩)⟩
   case measure => simp [intOf]
  ·have q1 := h1.2 1 _ rfl
   obtain ⟨_, _, e9, _, c9⟩ := IRow.get (hp.grow gX) (j := 1) rfl
   cases e9
   try simp only [Nat.add_zero] at c9
   have z0 := h3.2 1
   have q3 := h3.1.2 1 _ rfl
   have k0 : IntKind.i64.wrap (1000 * p1) = 1000 * p1 := IntWalk.i64_in _ (by omega)
   have k1 : IntKind.i64.wrap (1000 * p1 - c) = 1000 * p1 - c := IntWalk.i64_in _ (by omega)
   go_wp2
   go_roundw
   case rel => exact Lib.hid ⟨gX.setCell (p := ⟨w.heap.size + 1 + 1, 1, none⟩) hle3 _, Box.other h1 n13, h2.other n23, .inr (.inr (.inl ⟨rfl, h3.set (i := 1) (by simp)⟩))⟩
   case measure => simp [intOf]
  ·have q1 := h1.2 1 _ rfl
   obtain ⟨_, _, e9, _, c9⟩ := IRow.get (hp.grow gX) (j := 2) rfl
   cases e9
   try simp only [Nat.add_zero] at c9
   have z0 := h3.2 2
   have q3 := h3.1.2 2 _ rfl
   have k0 : IntKind.i64.wrap (1000 * p2) = 1000 * p2 := IntWalk.i64_in _ (by omega)
   have k1 : IntKind.i64.wrap (1000 * p2 - c) = 1000 * p2 - c := IntWalk.i64_in _ (by omega)
   go_wp2
   go_roundw
   case rel => exact Lib.hid ⟨gX.setCell (p := ⟨w.heap.size + 1 + 1, 2, none⟩) hle3 _, Box.other h1 n13, h2.other n23, .inr (.inr (.inr (.inl ⟨rfl, h3.set (i := 2) (by simp)⟩)))⟩
   case measure => simp [intOf]
  ·have q1 := h1.2 1 _ rfl
   obtain ⟨_, _, e9, _, c9⟩ := IRow.get (hp.grow gX) (j := 3) rfl
   cases e9
   try simp only [Nat.add_zero] at c9
   have z0 := h3.2 3
   have q3 := h3.1.2 3 _ rfl
   have k0 : IntKind.i64.wrap (1000 * p3) = 1000 * p3 := IntWalk.i64_in _ (by omega)
   have k1 : IntKind.i64.wrap (1000 * p3 - c) = 1000 * p3 - c := IntWalk.i64_in _ (by omega)
   go_wp2
   go_roundw
   case rel => exact Lib.hid ⟨gX.setCell (p := ⟨w.heap.size + 1 + 1, 3, none⟩) hle3 _, Box.other h1 n13, h2.other n23, .inr (.inr (.inr (.inr (⟨rfl, h3.set (i := 3) (by simp)⟩))))⟩
   case measure => simp [intOf]
  ·cases opn
   case true =>
    have q2 := h1.2 2 _ rfl
    have q6 := h1.2 6 _ rfl
    have z4 := h3.2 4
    have q4 := h3.1.2 4 _ rfl
    have k0 : IntKind.i64.wrap (1000 * hei) = 1000 * hei := IntWalk.i64_in _ (by omega)
    have k1 : IntKind.i64.wrap (2 * c) = 2 * c := IntWalk.i64_in _ (by omega)
    have k2 : IntKind.i64.wrap (1000 * hei - 2 * c) = 1000 * hei - 2 * c := IntWalk.i64_in _ (by omega)
    have k3 : IntKind.i64.wrap (1000 * hei - 2 * c + c) = 1000 * hei - 2 * c + c := IntWalk.i64_in _ (by omega)
    go_upto_region 9 with fail
    refine wp_abs (fun Y => Gr w Y ∧ Box Y w.heap.size [.int .i64 tab, .slice (some ⟨pb, pf, none⟩) 4 pc, .int .i64 hei, .slice (some ⟨tb, tf, none⟩) 2 tc, .slice (some ⟨bb, bf, none⟩) 2 bc, .int .i64 slo, .bool true] ∧ Own Y (w.heap.size + 1) [.int .i64 0, .int .i64 0, .int .i64 0, .int .i64 0, .int .i64 0, .int .i64 0, .int .i64 0, .int .i64 0, .int .i64 0] ∧ Own Y (w.heap.size + 1 + 1) [.int .i64 (1000 * p0 - c), .int .i64 (1000 * p1 - c), .int .i64 (1000 * p2 - c), .int .i64 (1000 * p3 - c), .int .i64 (micH hei true c), .int .i64 0, .int .i64 0, .int .i64 0, .int .i64 0]) ⟨(gX.setCell (p := ⟨w.heap.size + 1 + 1, 4, none⟩) hle3 _).setCell (p := ⟨w.heap.size + 1 + 1, 4, none⟩) hle3 _, Box.other (Box.other h1 n13) n13, (h2.other n23).other n23, (h3.set (i := 4) (by simp)).set (i := 4) (by simp)⟩ ?_
    clear gX h1 h2 h3 q2 q6 z4 q4 k0 k1 k2 k3
    rintro Y ⟨gX, h1, h2, h3⟩
    go_wp2
    go_loopw [7] (fun t wr => Hid (Gr w wr ∧ Box wr w.heap.size [.int .i64 tab, .slice (some ⟨pb, pf, none⟩) 4 pc, .int .i64 hei, .slice (some ⟨tb, tf, none⟩) 2 tc, .slice (some ⟨bb, bf, none⟩) 2 bc, .int .i64 slo, .bool true] ∧ Own wr (w.heap.size + 1) [.int .i64 0, .int .i64 0, .int .i64 0, .int .i64 0, .int .i64 0, .int .i64 0, .int .i64 0, .int .i64 0, .int .i64 0] ∧ ((t = .int .i64 0 ∧ Own wr (w.heap.size + 1 + 1) [.int .i64 (1000 * p0 - c), .int .i64 (1000 * p1 - c), .int .i64 (1000 * p2 - c), .int .i64 (1000 * p3 - c), .int .i64 (micH hei true c), .int .i64 0, .int .i64 0, .int .i64 0, .int .i64 0]) ∨ (t = .int .i64 1 ∧ Own wr (w.heap.size + 1 + 1) [.int .i64 (1000 * p0 - c), .int .i64 (1000 * p1 - c), .int .i64 (1000 * p2 - c), .int .i64 (1000 * p3 - c), .int .i64 (micH hei true c), .int .i64 (1000 * p1 - c - 2000 * t0), .int .i64 0, .int .i64 0, .int .i64 0]) ∨ (t = .int .i64 2 ∧ Own wr (w.heap.size + 1 + 1) [.int .i64 (1000 * p0 - c), .int .i64 (1000 * p1 - c), .int .i64 (1000 * p2 - c), .int .i64 (1000 * p3 - c), .int .i64 (micH hei true c), .int .i64 (1000 * p1 - c - 2000 * t0), .int .i64 (1000 * p0 - c - 2000 * t1), .int .i64 0, .int .i64 0]) ∨ (t = .int .i64 3 ∧ Own wr (w.heap.size + 1 + 1) [.int .i64 (1000 * p0 - c), .int .i64 (1000 * p1 - c), .int .i64 (1000 * p2 - c), .int .i64 (1000 * p3 - c), .int .i64 (micH hei true c), .int .i64 (1000 * p1 - c - 2000 * t0), .int .i64 (1000 * p0 - c - 2000 * t1), .int .i64 (1000 * p1 - c - 2000 * s0), .int .i64 0]) ∨ (t = .int .i64 4 ∧ Own wr (w.heap.size + 1 + 1) [.int .i64 (1000 * p0 - c), .int .i64 (1000 * p1 - c), .int .i64 (1000 * p2 - c), .int .i64 (1000 * p3 - c), .int .i64 (micH hei true c), .int .i64 (1000 * p1 - c - 2000 * t0), .int .i64 (1000 * p0 - c - 2000 * t1), .int .i64 (1000 * p1 - c - 2000 * s0), .int .i64 (1000 * p0 - c - 2000 * s1)])))) (fun t _ => 4 - (intOf t).toNat)
    case atStart => exact Lib.hid ⟨gX, h1, h2, .inl ⟨rfl, h3⟩⟩
    case round =>
     clear gX h1 h2 h3
     obtain ⟨gX, h1, h2, hx⟩ := hrel.out
     clear hrel
     rcases hx with ⟨rfl, h3⟩ | ⟨rfl, h3⟩ | ⟨rfl, h3⟩ | ⟨rfl, h3⟩ | ⟨rfl, h3⟩
     ·have q3 := h1.2 3 _ rfl
      have q4 := h1.2 4 _ rfl
      obtain ⟨_, _, e9, _, c9⟩ := IRow.get (hb.grow gX) (j := 0) rfl
      cases e9
      obtain ⟨_, _, e9, _, c8⟩ := IRow.get (ht.grow gX) (j := 0) rfl
      cases e9
      try simp only [Nat.add_zero] at c8 c9
      have z0 := h3.2 5
      have w0 := h3.1.2 5 _ rfl
      have w1 := h3.1.2 1 _ rfl
      have k0 : IntKind.i64.wrap (2000 * t0) = 2000 * t0 := IntWalk.i64_in _ (by omega)
      have k1 : IntKind.i64.wrap (1000 * p1 - c - 2000 * t0) = 1000 * p1 - c - 2000 * t0 := IntWalk.i64_in _ (by omega)
      go_wp2
      go_roundw
      case rel => exact Lib.hid ⟨gX.setCell (p := ⟨w.heap.size + 1 + 1, 5, none⟩) hle3 _, Box.other h1 n13, h2.other n23, .inr (.inl ⟨rfl, h3.set (i := 5) (by simp)⟩)⟩
      case measure => simp [intOf]
     ·have q3 := h1.2 3 _ rfl
      have q4 := h1.2 4 _ rfl
      obtain ⟨_, _, e9, _, c9⟩ := IRow.get (hb.grow gX) (j := 1) rfl
      cases e9
      obtain ⟨_, _, e9, _, c8⟩ := IRow.get (ht.grow gX) (j := 1) rfl
      cases e9
      try simp only [Nat.add_zero] at c8 c9
      have z0 := h3.2 6
      have w0 := h3.1.2 6 _ rfl
      have w1 := h3.1.2 0 _ rfl
      have k0 : IntKind.i64.wrap (2000 * t1) = 2000 * t1 := IntWalk.i64_in _ (by omega)
      have k1 : IntKind.i64.wrap (1000 * p0 - c - 2000 * t1) = 1000 * p0 - c - 2000 * t1 := IntWalk.i64_in _ (by omega)
      go_wp2
      go_roundw
      case rel => exact Lib.hid ⟨gX.setCell (p := ⟨w.heap.size + 1 + 1, 6, none⟩) hle3 _, Box.other h1 n13, h2.other n23, .inr (.inr (.inl ⟨rfl, h3.set (i := 6) (by simp)⟩))⟩
      case measure => simp [intOf]
     ·have q3 := h1.2 3 _ rfl
      have q4 := h1.2 4 _ rfl
      obtain ⟨_, _, e9, _, c9⟩ := IRow.get (hb.grow gX) (j := 0) rfl
      cases e9
      obtain ⟨_, _, e9, _, c8⟩ := IRow.get (ht.grow gX) (j := 0) rfl
      cases e9
      try simp only [Nat.add_zero] at c8 c9
      have z0 := h3.2 7
      have w0 := h3.1.2 7 _ rfl
      have w1 := h3.1.2 1 _ rfl
      have k0 : IntKind.i64.wrap (2000 * s0) = 2000 * s0 := IntWalk.i64_in _ (by omega)
      have k1 : IntKind.i64.wrap (1000 * p1 - c - 2000 * s0) = 1000 * p1 - c - 2000 * s0 := IntWalk.i64_in _ (by omega)
      go_wp2
      go_roundw
      case rel => exact Lib.hid ⟨gX.setCell (p := ⟨w.heap.size + 1 + 1, 7, none⟩) hle3 _, Box.other h1 n13, h2.other n23, .inr (.inr (.inr (.inl ⟨rfl, h3.set (i := 7) (by simp)⟩)))⟩
      case measure => simp [intOf]
     ·have q3 := h1.2 3 _ rfl
      have q4 := h1.2 4 _ rfl
      obtain ⟨_, _, e9, _, c9⟩ := IRow.get (hb.grow gX) (j := 1) rfl
      cases e9
      obtain ⟨_, _, e9, _, c8⟩ := IRow.get (ht.grow gX) (j := 1) rfl
      cases e9
      try simp only [Nat.add_zero] at c8 c9
      have z0 := h3.2 8
      have w0 := h3.1.2 8 _ rfl
      have w1 := h3.1.2 0 _ rfl
      have k0 : IntKind.i64.wrap (2000 * s1) = 2000 * s1 := IntWalk.i64_in _ (by omega)
      have k1 : IntKind.i64.wrap (1000 * p0 - c - 2000 * s1) = 1000 * p0 - c - 2000 * s1 := IntWalk.i64_in _ (by omega)
      go_wp2
      go_roundw
      case rel => exact Lib.hid ⟨gX.setCell (p := ⟨w.heap.size + 1 + 1, 8, none⟩) hle3 _, Box.other h1 n13, h2.other n23, .inr (.inr (.inr (.inr (⟨rfl, h3.set (i := 8) (by simp)⟩))))⟩
      case measure => simp [intOf]
     ·obtain ⟨w0, w1, w2, w3, w4, w5, w6, w7, w8⟩ := h3.1.c9
      obtain ⟨y0, y1, y2, y3, y4, y5, y6, y7, y8⟩ := h2.1.c9
      have x0 := h2.2 0
      have x1 := h2.2 1
      have x2 := h2.2 2
      have x3 := h2.2 3
      have x4 := h2.2 4
      have x5 := h2.2 5
      have x6 := h2.2 6
      have x7 := h2.2 7
      have x8 := h2.2 8
      clear h1 h2 h3
      go_wp2
      refine bodyPost_ret (v := .agg #[.int .i64 (1000 * p0 - c), .int .i64 (1000 * p1 - c), .int .i64 (1000 * p2 - c), .int .i64 (1000 * p3 - c), .int .i64 (micH hei true c), .int .i64 (1000 * p1 - c - 2000 * t0), .int .i64 (1000 * p0 - c - 2000 * t1), .int .i64 (1000 * p1 - c - 2000 * s0), .int .i64 (1000 * p0 - c - 2000 * s1)]) (by simp [results, Try.results44, go_sem, y0, y1, y2, y3, y4, y5, y6, y7, y8]) rfl ⟨rfl, ?_⟩
      exact (((((((((gX.setCell (p := ⟨w.heap.size + 1, 0, none⟩) hle2 _).setCell (p := ⟨w.heap.size + 1, 1, none⟩) hle2 _).setCell (p := ⟨w.heap.size + 1, 2, none⟩) hle2 _).setCell (p := ⟨w.heap.size + 1, 3, none⟩) hle2 _).setCell (p := ⟨w.heap.size + 1, 4, none⟩) hle2 _).setCell (p := ⟨w.heap.size + 1, 5, none⟩) hle2 _).setCell (p := ⟨w.heap.size + 1, 6, none⟩) hle2 _).setCell (p := ⟨w.heap.size + 1, 7, none⟩) hle2 _).setCell (p := ⟨w.heap.size + 1, 8, none⟩) hle2 _)
   case false =>
    have q2 := h1.2 2 _ rfl
    have q6 := h1.2 6 _ rfl
    have z4 := h3.2 4
    have q4 := h3.1.2 4 _ rfl
    have k0 : IntKind.i64.wrap (1000 * hei) = 1000 * hei := IntWalk.i64_in _ (by omega)
    have k1 : IntKind.i64.wrap (2 * c) = 2 * c := IntWalk.i64_in _ (by omega)
    have k2 : IntKind.i64.wrap (1000 * hei - 2 * c) = 1000 * hei - 2 * c := IntWalk.i64_in _ (by omega)
    have k3 : IntKind.i64.wrap (1000 * hei - 2 * c + c) = 1000 * hei - 2 * c + c := IntWalk.i64_in _ (by omega)
    go_upto_region 9 with fail
    refine wp_abs (fun Y => Gr w Y ∧ Box Y w.heap.size [.int .i64 tab, .slice (some ⟨pb, pf, none⟩) 4 pc, .int .i64 hei, .slice (some ⟨tb, tf, none⟩) 2 tc, .slice (some ⟨bb, bf, none⟩) 2 bc, .int .i64 slo, .bool false] ∧ Own Y (w.heap.size + 1) [.int .i64 0, .int .i64 0, .int .i64 0, .int .i64 0, .int .i64 0, .int .i64 0, .int .i64 0, .int .i64 0, .int .i64 0] ∧ Own Y (w.heap.size + 1 + 1) [.int .i64 (1000 * p0 - c), .int .i64 (1000 * p1 - c), .int .i64 (1000 * p2 - c), .int .i64 (1000 * p3 - c), .int .i64 (micH hei false c), .int .i64 0, .int .i64 0, .int .i64 0, .int .i64 0]) ⟨gX.setCell (p := ⟨w.heap.size + 1 + 1, 4, none⟩) hle3 _, Box.other h1 n13, h2.other n23, h3.set (i := 4) (by simp)⟩ ?_
    clear gX h1 h2 h3 q2 q6 z4 q4 k0 k1 k2 k3
    rintro Y ⟨gX, h1, h2, h3⟩
    go_wp2
    go_loopw [7] (fun t wr => Hid (Gr w wr ∧ Box wr w.heap.size [.int .i64 tab, .slice (some ⟨pb, pf, none⟩) 4 pc, .int .i64 hei, .slice (some ⟨tb, tf, none⟩) 2 tc, .slice (some ⟨bb, bf, none⟩) 2 bc, .int .i64 slo, .bool false] ∧ Own wr (w.heap.size + 1) [.int .i64 0, .int .i64 0, .int .i64 0, .int .i64 0, .int .i64 0, .int .i64 0, .int .i64 0, .int .i64 0, .int .i64 0] ∧ ((t = .int .i64 0 ∧ Own wr (w.heap.size + 1 + 1) [.int .i64 (1000 * p0 - c), .int .i64 (1000 * p1 - c), .int .i64 (1000 * p2 - c), .int .i64 (1000 * p3 - c), .int .i64 (micH hei false c), .int .i64 0, .int .i64 0, .int .i64 0, .int .i64 0]) ∨ (t = .int .i64 1 ∧ Own wr (w.heap.size + 1 + 1) [.int .i64 (1000 * p0 - c), .int .i64 (1000 * p1 - c), .int .i64 (1000 * p2 - c), .int .i64 (1000 * p3 - c), .int .i64 (micH hei false c), .int .i64 (1000 * p1 - c - 2000 * t0), .int .i64 0, .int .i64 0, .int .i64 0]) ∨ (t = .int .i64 2 ∧ Own wr (w.heap.size + 1 + 1) [.int .i64 (1000 * p0 - c), .int .i64 (1000 * p1 - c), .int .i64 (1000 * p2 - c), .int .i64 (1000 * p3 - c), .int .i64 (micH hei false c), .int .i64 (1000 * p1 - c - 2000 * t0), .int .i64 (1000 * p0 - c - 2000 * t1), .int .i64 0, .int .i64 0]) ∨ (t = .int .i64 3 ∧ Own wr (w.heap.size + 1 + 1) [.int .i64 (1000 * p0 - c), .int .i64 (1000 * p1 - c), .int .i64 (1000 * p2 - c), .int .i64 (1000 * p3 - c), .int .i64 (micH hei false c), .int .i64 (1000 * p1 - c - 2000 * t0), .int .i64 (1000 * p0 - c - 2000 * t1), .int .i64 (1000 * p1 - c - 2000 * s0), .int .i64 0]) ∨ (t = .int .i64 4 ∧ Own wr (w.heap.size + 1 + 1) [.int .i64 (1000 * p0 - c), .int .i64 (1000 * p1 - c), .int .i64 (1000 * p2 - c), .int .i64 (1000 * p3 - c), .int .i64 (micH hei false c), .int .i64 (1000 * p1 - c - 2000 * t0), .int .i64 (1000 * p0 - c - 2000 * t1), .int .i64 (1000 * p1 - c - 2000 * s0), .int .i64 (1000 * p0 - c - 2000 * s1)])))) (fun t _ => 4 - (intOf t).toNat)
    case atStart => exact Lib.hid ⟨gX, h1, h2, .inl ⟨rfl, h3⟩⟩
    case round =>
     clear gX h1 h2 h3
     obtain ⟨gX, h1, h2, hx⟩ := hrel.out
     clear hrel
     rcases hx with ⟨rfl, h3⟩ | ⟨rfl, h3⟩ | ⟨rfl, h3⟩ | ⟨rfl, h3⟩ | ⟨rfl, h3⟩
     ·have q3 := h1.2 3 _ rfl
      have q4 := h1.2 4 _ rfl
      obtain ⟨_, _, e9, _, c9⟩ := IRow.get (hb.grow gX) (j := 0) rfl
      cases e9
      obtain ⟨_, _, e9, _, c8⟩ := IRow.get (ht.grow gX) (j := 0) rfl
      cases e9
      try simp only [Nat.add_zero] at c8 c9
      have z0 := h3.2 5
      have w0 := h3.1.2 5 _ rfl
      have w1 := h3.1.2 1 _ rfl
      have k0 : IntKind.i64.wrap (2000 * t0) = 2000 * t0 := IntWalk.i64_in _ (by omega)
      have k1 : IntKind.i64.wrap (1000 * p1 - c - 2000 * t0) = 1000 * p1 - c - 2000 * t0 := IntWalk.i64_in _ (by omega)
      go_wp2
      go_roundw
      case rel => exact Lib.hid ⟨gX.setCell (p := ⟨w.heap.size + 1 + 1, 5, none⟩) hle3 _, Box.other h1 n13, h2.other n23, .inr (.inl ⟨rfl, h3.set (i := 5) (by simp)⟩)⟩
      case measure => simp [intOf]
     ·have q3 := h1.2 3 _ rfl
      have q4 := h1.2 4 _ rfl
      obtain ⟨_, _, e9, _, c9⟩ := IRow.get (hb.grow gX) (j := 1) rfl
      cases e9
      obtain ⟨_, _, e9, _, c8⟩ := IRow.get (ht.grow gX) (j := 1) rfl
      cases e9
      try simp only [Nat.add_zero] at c8 c9
      have z0 := h3.2 6
      have w0 := h3.1.2 6 _ rfl
      have w1 := h3.1.2 0 _ rfl
      have k0 : IntKind.i64.wrap (2000 * t1) = 2000 * t1 := IntWalk.i64_in _ (by omega)
      have k1 : IntKind.i64.wrap (1000 * p0 - c - 2000 * t1) = 1000 * p0 - c - 2000 * t1 := IntWalk.i64_in _ (by omega)
      go_wp2
      go_roundw
      case rel => exact Lib.hid ⟨gX.setCell (p := ⟨w.heap.size + 1 + 1, 6, none⟩) hle3 _, Box.other h1 n13, h2.other n23, .inr (.inr (.inl ⟨rfl, h3.set (i := 6) (by simp)⟩))⟩
      case measure => simp [intOf]
     ·have q3 := h1.2 3 _ rfl
      have q4 := h1.2 4 _ rfl
      obtain ⟨_, _, e9, _, c9⟩ := IRow.get (hb.grow gX) (j := 0) rfl
      cases e9
      obtain ⟨_, _, e9, _, c8⟩ := IRow.get (ht.grow gX) (j := 0) rfl
      cases e9
      try simp only [Nat.add_zero] at c8 c9
      have z0 := h3.2 7
      have w0 := h3.1.2 7 _ rfl
      have w1 := h3.1.2 1 _ rfl
      have k0 : IntKind.i64.wrap (2000 * s0) = 2000 * s0 := IntWalk.i64_in _ (by omega)
      have k1 : IntKind.i64.wrap (1000 * p1 - c - 2000 * s0) = 1000 * p1 - c - 2000 * s0 := IntWalk.i64_in _ (by omega)
      go_wp2
      go_roundw
      case rel => exact Lib.hid ⟨gX.setCell (p := ⟨w.heap.size + 1 + 1, 7, none⟩) hle3 _, Box.other h1 n13, h2.other n23, .inr (.inr (.inr (.inl ⟨rfl, h3.set (i := 7) (by simp)⟩)))⟩
      case measure => simp [intOf]
     ·have q3 := h1.2 3 _ rfl
      have q4 := h1.2 4 _ rfl
      obtain ⟨_, _, e9, _, c9⟩ := IRow.get (hb.grow gX) (j := 1) rfl
      cases e9
      obtain ⟨_, _, e9, _, c8⟩ := IRow.get (ht.grow gX) (j := 1) rfl
      cases e9
      try simp only [Nat.add_zero] at c8 c9
      have z0 := h3.2 8
      have w0 := h3.1.2 8 _ rfl
      have w1 := h3.1.2 0 _ rfl
      have k0 : IntKind.i64.wrap (2000 * s1) = 2000 * s1 := IntWalk.i64_in _ (by omega)
      have k1 : IntKind.i64.wrap (1000 * p0 - c - 2000 * s1) = 1000 * p0 - c - 2000 * s1 := IntWalk.i64_in _ (by omega)
      go_wp2
      go_roundw
      case rel => exact Lib.hid ⟨gX.setCell (p := ⟨w.heap.size + 1 + 1, 8, none⟩) hle3 _, Box.other h1 n13, h2.other n23, .inr (.inr (.inr (.inr (⟨rfl, h3.set (i := 8) (by simp)⟩))))⟩
      case measure => simp [intOf]
     ·obtain ⟨w0, w1, w2, w3, w4, w5, w6, w7, w8⟩ := h3.1.c9
      obtain ⟨y0, y1, y2, y3, y4, y5, y6, y7, y8⟩ := h2.1.c9
      have x0 := h2.2 0
      have x1 := h2.2 1
      have x2 := h2.2 2
      have x3 := h2.2 3
      have x4 := h2.2 4
      have x5 := h2.2 5
      have x6 := h2.2 6
      have x7 := h2.2 7
      have x8 := h2.2 8
      clear h1 h2 h3
      go_wp2
      refine bodyPost_ret (v := .agg #[.int .i64 (1000 * p0 - c), .int .i64 (1000 * p1 - c), .int .i64 (1000 * p2 - c), .int .i64 (1000 * p3 - c), .int .i64 (micH hei false c), .int .i64 (1000 * p1 - c - 2000 * t0), .int .i64 (1000 * p0 - c - 2000 * t1), .int .i64 (1000 * p1 - c - 2000 * s0), .int .i64 (1000 * p0 - c - 2000 * s1)]) (by simp [results, Try.results44, go_sem, y0, y1, y2, y3, y4, y5, y6, y7, y8]) rfl ⟨rfl, ?_⟩
      exact (((((((((gX.setCell (p := ⟨w.heap.size + 1, 0, none⟩) hle2 _).setCell (p := ⟨w.heap.size + 1, 1, none⟩) hle2 _).setCell (p := ⟨w.heap.size + 1, 2, none⟩) hle2 _).setCell (p := ⟨w.heap.size + 1, 3, none⟩) hle2 _).setCell (p := ⟨w.heap.size + 1, 4, none⟩) hle2 _).setCell (p := ⟨w.heap.size + 1, 5, none⟩) hle2 _).setCell (p := ⟨w.heap.size + 1, 6, none⟩) hle2 _).setCell (p := ⟨w.heap.size + 1, 7, none⟩) hle2 _).setCell (p := ⟨w.heap.size + 1, 8, none⟩) hle2 _)

end Go.Proofs.Ytoihnilgmdcndaa

namespace Go.Proofs.Ytoihnilgmdcndaa
set_option linter.unusedVariables false
set_option linter.unusedSimpArgs false
open Go.RowKit

set_option maxRecDepth 100000 in
theorem around_any (lo hi wide : Int) (h0 : -1000000000 ≤ lo) (h1 : lo ≤ 1000000000) (h2 : -1000000000 ≤ hi) (h3 : hi ≤ 1000000000) (h4 : 0 ≤ wide) (h5 : wide ≤ 1000) (w : World) :
    Calls Try.prog 82 #[.int .i64 lo, .int .i64 hi, .int .i64 wide] w fun e w' => e = .returned (.agg #[.int .i64 (lo / 1000 - wide), .int .i64 ((hi + 999) / 1000 + wide)]) ∧ Gr w w' := by
  have gg := Gr.al w (.cells #[.int .i64 0, .int .i64 0] 37)
  have o2 := Own.new w [.int .i64 0, .int .i64 0] 37 w.heap.size rfl
  have k0 : IntKind.i64.wrap (lo / 1000 - wide) = lo / 1000 - wide := IntWalk.i64_in _ (by omega)
  have k1 : IntKind.i64.wrap ((hi + 999) / 1000 + wide) = (hi + 999) / 1000 + wide := IntWalk.i64_in _ (by omega)
  have hle : w.heap.size ≤ w.heap.size := Nat.le_refl _
  go_enter Try.func82, Try.ntmps82
  go_wp2_with (first
    | (go_at_call 49; refine (down_any lo h0 h1 _).mono ?_; rintro e w1 ⟨rfl, g1⟩; replace gg := gg.tr g1; replace o2 := o2.keep g1)
    | (go_at_call 87; refine (up_any hi h2 h3 _).mono ?_; rintro e w2 ⟨rfl, g2⟩; replace gg := gg.tr g2; replace o2 := o2.keep g2)
    | (go_at_call 26; refine (span02_any _ _ _).mono ?_; rintro e w3 ⟨rfl, g3⟩; replace gg := gg.tr g3; replace o2 := o2.keep g3; obtain ⟨r0, r1⟩ := o2.1.c2; have z0 := o2.2 0; have z1 := o2.2 1))
  refine bodyPost_ret (v := .agg #[.int .i64 (lo / 1000 - wide), .int .i64 ((hi + 999) / 1000 + wide)]) (by simp [results, Try.results82, go_sem, r0, r1]) rfl ⟨rfl, ?_⟩
  exact (gg.setCell hle _).setCell hle _

set_option maxRecDepth 100000 in
theorem limited_any (lo hi least most : Int) (w : World) :
    Calls Try.prog 81 #[.agg #[.int .i64 lo, .int .i64 hi], .int .i64 least, .int .i64 most] w fun e w' => e = .returned (.agg #[.int .i64 (max least (min most lo)), .int .i64 (max least (min most hi))]) ∧ Gr w w' := by
  have gg := (Gr.al w (.cells #[.int .i64 lo, .int .i64 hi] 37)).tr (Gr.al _ (.cells #[.int .i64 0, .int .i64 0] 37))
  have h1 := (Box.new w [.int .i64 lo, .int .i64 hi] 37 w.heap.size rfl).keep (Gr.al _ (.cells #[.int .i64 0, .int .i64 0] 37))
  have o2 := Own.new (w.alloc (.cells #[.int .i64 lo, .int .i64 hi] 37)) [.int .i64 0, .int .i64 0] 37 (w.heap.size + 1) (by simp)
  obtain ⟨q0, q1⟩ := h1.c2
  have hle : w.heap.size ≤ w.heap.size + 1 := Nat.le_succ _
  go_enter Try.func81, Try.ntmps81
  go_wp2_with (go_at_call 26; refine (span02_any _ _ _).mono ?_; rintro e w3 ⟨rfl, g3⟩; replace gg := gg.tr g3; replace o2 := o2.keep g3; clear q0 q1; obtain ⟨r0, r1⟩ := o2.1.c2; have z0 := o2.2 0; have z1 := o2.2 1)
  refine bodyPost_ret (v := .agg #[.int .i64 (max least (min most lo)), .int .i64 (max least (min most hi))]) (by simp [results, Try.results81, go_sem, r0, r1]) rfl ⟨rfl, ?_⟩
  exact (gg.setCell hle _).setCell hle _

end Go.Proofs.Ytoihnilgmdcndaa

namespace Go.Proofs.Ytoihnilgmdcndaa
set_option linter.unusedVariables false
set_option linter.unusedSimpArgs false
open Go.RowKit

theorem row_lt1 {w : World} {a : Option Addr} {x : Int} {l : List Int} (h : IRow w a (x :: l)) : ∀ ad, a = some ad → ad.block < w.heap.size := by
  obtain ⟨b, o, rfl, hb, _⟩ := IRow.get h (j := 0) rfl
  rintro ad ⟨⟩
  exact hb

def Blank4 (p0 p1 p2 p3 t0 t1 s0 s1 hei : Int) (o : Bool) : Prop :=
  (1 ≤ p0 ∧ p0 ≤ 3000) ∧ (1 ≤ p1 ∧ p1 ≤ 3000) ∧ (1 ≤ p2 ∧ p2 ≤ 3000) ∧ (1 ≤ p3 ∧ p3 ≤ 3000) ∧ (0 ≤ t0 ∧ t0 ≤ 3000) ∧ (0 ≤ t1 ∧ t1 ≤ 3000) ∧ (0 ≤ s0 ∧ s0 ≤ 3000) ∧ (0 ≤ s1 ∧ s1 ≤ 3000) ∧ (1 ≤ hei ∧ hei ≤ 3000) ∧ (o = true → t0 = 0 ∧ t1 = 0)

theorem Blank4.good {p0 p1 p2 p3 t0 t1 s0 s1 hei : Int} {o : Bool} (h : Blank4 p0 p1 p2 p3 t0 t1 s0 s1 hei o) : GoodB 30 hei 9 [p0, p1, p2, p3] [t0, t1] [s0, s1] o := by
  obtain ⟨h0, h1, h2, h3, h4, h5, h6, h7, h8, h9⟩ := h
  refine ⟨rfl, rfl, rfl, by decide, ?_, ?_, ?_, ?_, by decide, fun e => ?_⟩
  · simp only [inB, in1, List.all_cons, List.all_nil, Bool.and_true, Bool.and_eq_true, decide_eq_true_eq]; omega
  · simp only [inB, in1, List.all_cons, List.all_nil, Bool.and_true, Bool.and_eq_true, decide_eq_true_eq]; omega
  · simp only [inB, in1, List.all_cons, List.all_nil, Bool.and_true, Bool.and_eq_true, decide_eq_true_eq]; omega
  · simp only [inB, in1, List.all_cons, List.all_nil, Bool.and_true, Bool.and_eq_true, decide_eq_true_eq]; omega
  · obtain ⟨rfl, rfl⟩ := h9 e
    decide

def Cal2 (cl ch : Int) : Prop := 1 ≤ cl ∧ cl ≤ ch ∧ ch ≤ 10000

theorem Cal2.ok {cl ch : Int} (h : Cal2 cl ch) : okSpan 1 10000 cl ch = true := by
  obtain ⟨h0, h1, h2⟩ := h
  simp only [okSpan, inB, in1, List.all_cons, List.all_nil, Bool.and_true, Bool.and_eq_true, decide_eq_true_eq]
  omega

def Own4 (p0 p1 p2 p3 t0 t1 s0 s1 hei : Int) (o : Bool) (w : World) (e : Ending) (w' : World) : Prop :=
  ∃ a3 c3 a7 c7 a11 c11, e = .returned (.agg #[.int .i64 30, .slice a3 4 c3, .int .i64 hei, .slice a7 2 c7, .slice a11 2 c11, .int .i64 9, .bool o]) ∧ Gr w w' ∧ IRow w' a3 [p0, p1, p2, p3] ∧ IRow w' a7 [t0, t1] ∧ IRow w' a11 [s0, s1]

theorem own4_any (p0 p1 p2 p3 t0 t1 s0 s1 hei : Int) (o : Bool) (pa ta ba : Option Addr) (pc tc bc : Nat) (w : World) (hp : IRow w pa [p0, p1, p2, p3]) (ht : IRow w ta [t0, t1]) (hb : IRow w ba [s0, s1]) :
    Calls Try.prog 16 #[.agg #[.int .i64 30, .slice pa 4 pc, .int .i64 hei, .slice ta 2 tc, .slice ba 2 bc, .int .i64 9, .bool o]] w (Own4 p0 p1 p2 p3 t0 t1 s0 s1 hei o w) := by
  refine (own02_own 30 hei 9 [p0, p1, p2, p3] [t0, t1] [s0, s1] pa ta ba pc tc bc o (by simp) (by simp) (by simp) w hp ht hb).mono ?_
  rintro e w' ⟨r3, c3, r7, c7, r11, c11, he, g, o3, o7, o11, _⟩
  exact ⟨_, c3, _, c7, _, c11, he, g, Own.row (l := [p0, p1, p2, p3]) o3 (by simp), Own.row (l := [t0, t1]) o7 (by simp), Own.row (l := [s0, s1]) o11 (by simp)⟩

theorem micH_le {hei : Int} {o : Bool} {c c' : Int} (h : c ≤ c') : micH hei o c' ≤ micH hei o c := by
  unfold micH; split <;> omega

/-- A sheet's blank, in letters. -/
def BlankNew (p0 p1 p2 p3 t0 t1 s0 s1 hei : Int) (o : Bool) (w : World) (e : Ending) (w' : World) : Prop :=
  ∃ a c a' c' a'' c'', e = .returned (.agg #[.int .i64 30, .slice a 4 c, .int .i64 hei, .slice a' 2 c', .slice a'' 2 c'', .int .i64 9, .bool o]) ∧ Gr w w' ∧ (IRow w' a [p0, p1, p2, p3] ∧ IRow w' a' [t0, t1] ∧ IRow w' a'' [s0, s1]) ∧ (∀ ad, a = some ad → w.heap.size ≤ ad.block ∧ ad.block < w'.heap.size) ∧ (∀ ad, a' = some ad → w.heap.size ≤ ad.block ∧ ad.block < w'.heap.size) ∧ (∀ ad, a'' = some ad → w.heap.size ≤ ad.block ∧ ad.block < w'.heap.size)

theorem SheetPost.new {p0 p1 p2 p3 t0 t1 s0 s1 h : Int} {o : Bool} {w : World} {e : Ending} {w' : World} (H : SheetPost [p0, p1, p2, p3] [t0, t1] [s0, s1] h o w e w') : BlankNew p0 p1 p2 p3 t0 t1 s0 s1 (40 + h) o w e w' := by
  obtain ⟨a, c, a', c', a'', c'', rfl, g, r1, r2, r3, n1, n2, n3⟩ := H
  have one : ∀ (a : Option Addr) (x : Int) (l : List Int), IRow w' a (x :: l) → NewAt w.heap.size a → ∀ ad, a = some ad → w.heap.size ≤ ad.block ∧ ad.block < w'.heap.size := by
    intro a x l r n ad e
    refine ⟨?_, row_lt1 r ad e⟩
    cases ad with
    | mk b o c => exact n b o c e
-- row_lt1 r ad e⟩
  exact ⟨a, c, a', c', a'', c'', rfl, g, ⟨r1, r2, r3⟩, one _ _ _ r1 n1, one _ _ _ r2 n2, one _ _ _ r3 n3⟩

end Go.Proofs.Ytoihnilgmdcndaa

namespace Go.Proofs.Ytoihnilgmdcndaa
set_option linter.unusedVariables false
set_option linter.unusedSimpArgs false
open Go.RowKit

/-- What a sheet's blank and calipers are. -/
def Sheet4 (p0 p1 p2 p3 t0 t1 s0 s1 hei : Int) (o : Bool) : Prop :=
 (60 ≤ p0 ∧ p0 ≤ 315) ∧ (60 ≤ p1 ∧ p1 ≤ 315) ∧ (60 ≤ p2 ∧ p2 ≤ 315) ∧ (60 ≤ p3 ∧ p3 ≤ 315) ∧ (0 ≤ t0 ∧ t0 ≤ 255) ∧ (0 ≤ t1 ∧ t1 ≤ 255) ∧ (0 ≤ s0 ∧ s0 ≤ 255) ∧ (0 ≤ s1 ∧ s1 ≤ 255) ∧ (40 ≤ hei ∧ hei ≤ 295) ∧ (o = true → t0 = 0 ∧ t1 = 0)

theorem Sheet4.ok {p0 p1 p2 p3 t0 t1 s0 s1 hei : Int} {o : Bool} (h : Sheet4 p0 p1 p2 p3 t0 t1 s0 s1 hei o) : Blank4 p0 p1 p2 p3 t0 t1 s0 s1 hei o := by
 obtain ⟨h0, h1, h2, h3, h4, h5, h6, h7, h8, h9⟩ := h
 refine ⟨?_, ?_, ?_, ?_, ?_, ?_, ?_, ?_, ?_, h9⟩ <;> omega

def Cal4 (cl ch : Int) : Prop := 1500 ≤ cl ∧ cl ≤ ch ∧ ch ≤ 7110

theorem Cal4.ok {cl ch : Int} (h : Cal4 cl ch) : Cal2 cl ch := by
 obtain ⟨h0, h1, h2⟩ := h
 exact ⟨by omega, by omega, by omega⟩

/-- A check holds with all calipers of a span. -/
def Holding (H : Nat → Sp) (cl ch : Int) (k : Nat) : Prop := (H k).lo ≤ cl ∧ ch ≤ (H k).hi

theorem out_no {H : Nat → Sp} {cl ch : Int} {k : Nat} (hc : cl ≤ ch) (h : Holding H cl ch k) : outB cl ch (H k).lo (H k).hi = false := by
 obtain ⟨a, b⟩ := h
 simp [outB]
 omega

theorem badL_none {H : Nat → Sp} {cl ch : Int} (hc : cl ≤ ch) : ∀ n, (∀ k, k < n → Holding H cl ch k) → badL cl ch H n = []
 | 0, _ => rfl
 | n + 1, h => by
  unfold badL
  rw [badL_none hc n (fun k hk => h k (by omega)), out_no hc (h n (by omega))]
  rfl

/-- The least and the greatest of a wish around some micrometres. -/
def arL (n wide least most : Int) : Int := max least (min most (n / 1000 - wide))

def arH (n wide least most : Int) : Int := max least (min most ((n + 999) / 1000 + wide))

theorem arL_bd {n wide least most : Int} (h : least ≤ most) : least ≤ arL n wide least most ∧ arL n wide least most ≤ most := by unfold arL; omega

theorem arH_bd {n wide least most : Int} (h : least ≤ most) : least ≤ arH n wide least most ∧ arH n wide least most ≤ most := by unfold arH; omega

theorem arL_le {n wide least most : Int} (hw : 0 ≤ wide) (h : 1000 * least ≤ n) : 1000 * arL n wide least most ≤ n := by unfold arL; omega

theorem arH_ge {n wide least most : Int} (hw : 0 ≤ wide) (h : n ≤ 1000 * most) : n ≤ 1000 * arH n wide least most := by unfold arH; omega

theorem ar_le {m n wide least most : Int} (hw : 0 ≤ wide) (h : m ≤ n) : arL m wide least most ≤ arH n wide least most := by unfold arL arH; omega

def wishOf (p0 p1 s0 s1 hei : Int) (o : Bool) (cl ch w0 w1 w2 w3 w4 : Int) : Wi :=
 ⟨arL (1000 * p0 - ch) w0 0 3000, arH (1000 * p0 - cl) w0 0 3000, arL (1000 * p1 - ch) w1 0 3000, arH (1000 * p1 - cl) w1 0 3000, arL (micH hei o ch) w2 0 3000, arH (micH hei o cl) w2 0 3000, arL (1000 * p1 - ch - 2000 * s0) w3 (-3000) 3000, arH (1000 * p1 - cl - 2000 * s0) w3 (-3000) 3000, arL (1000 * p0 - ch - 2000 * s1) w4 (-3000) 3000, arH (1000 * p0 - cl - 2000 * s1) w4 (-3000) 3000, o⟩

def Wide (w0 w1 w2 w3 w4 : Int) : Prop := (0 ≤ w0 ∧ w0 ≤ 5) ∧ (0 ≤ w1 ∧ w1 ≤ 5) ∧ (0 ≤ w2 ∧ w2 ≤ 5) ∧ (0 ≤ w3 ∧ w3 ≤ 5) ∧ (0 ≤ w4 ∧ w4 ≤ 5)

theorem micH_eq (hei : Int) (o : Bool) (c : Int) : micH hei o c = 1000 * hei - lostL 4 o * c := by
 cases o <;> simp [micH, lostL] <;> omega

theorem wishOf_ok {p0 p1 s0 s1 hei : Int} {o : Bool} {cl ch w0 w1 w2 w3 w4 : Int} (hw : Wide w0 w1 w2 w3 w4) (hc : cl ≤ ch) : (wishOf p0 p1 s0 s1 hei o cl ch w0 w1 w2 w3 w4).ok := by
 obtain ⟨⟨a0, _⟩, ⟨a1, _⟩, ⟨a2, _⟩, ⟨a3, _⟩, ⟨a4, _⟩⟩ := hw
 refine ⟨⟨(arL_bd (by decide)).1, ar_le a0 (by omega), (arH_bd (by decide)).2⟩, ⟨(arL_bd (by decide)).1, ar_le a1 (by omega), (arH_bd (by decide)).2⟩, ⟨(arL_bd (by decide)).1, ar_le a2 (micH_le hc), (arH_bd (by decide)).2⟩, ⟨(arL_bd (by decide)).1, ar_le a3 (by omega), (arH_bd (by decide)).2⟩, ⟨(arL_bd (by decide)).1, ar_le a4 (by omega), (arH_bd (by decide)).2⟩⟩

/-- The holdings of a blank by four panels with a wish. -/
def holdW (p0 p1 p2 p3 t0 t1 s0 s1 hei : Int) (o : Bool) (W : Wi) : Nat → Sp := holdL 0 hei 9 [p0, p1, p2, p3] [t0, t1] [s0, s1] o W.ll W.lh W.wl W.wh W.hl W.hh W.ol W.oh W.il W.ih W.wo

end Go.Proofs.Ytoihnilgmdcndaa

namespace Go.Proofs.Ytoihnilgmdcndaa
set_option linter.unusedVariables false
set_option linter.unusedSimpArgs false
open Go.RowKit

theorem wpList_append_run {P : Program} {ops : Array Oper} {rest : List Oper} {o : Oper} {a : Act} {Q : Exit → Act → World → Prop} {w : World} (s x : Operand) (t : TypeId) (hg : o.guard = none)
    (ho : o.op = .call { callee := .builtin .append, args := #[s, x], argTypes := #[t, t] }) (v1 v2 u : Value) (w' : World) (hs : a.eval s = v1) (hx : a.eval x = v2)
    (hrun : (Builtin.append_ #[t, t] o.type #[v1, v2]).run P w = .ok u w') (h : wpList P ops Q rest (a.put o.dst u) w') : wpList P ops Q (o :: rest) a w := by
  refine wpList_plain hg fun K hK => ?_
  unfold Oper.wp
  simp [execOp, ho, resolve, invoke, builtin, hs, hx, hrun, Result.andThen]
  exact hK _ _ h

end Go.Proofs.Ytoihnilgmdcndaa

namespace Go.Proofs.Ytoihnilgmdcndaa
set_option linter.unusedVariables false
set_option linter.unusedSimpArgs false
open Go.RowKit

set_option maxRecDepth 100000 in
theorem ints02_ownL (l : List Int) (l0 : 0 < l.length) (l1 : l.length ≤ 1000) (a : Option Addr) (c : Nat) (w : World) (hr : IRow w a l) :
  Calls Try.prog 34 #[.slice a l.length c] w fun e w' => ∃ B c', e = .returned (.slice (some ⟨B, 0, none⟩) l.length c') ∧ Gr w w' ∧ Own w' B (l.map (fun n => Value.int .i64 n)) ∧ w.heap.size ≤ B := by
 have g0 := Gr.al w (.cells #[] 3)
 obtain ⟨v', c', hrun, hg, ho⟩ := app_own (w.alloc (.cells #[] 3)) w.heap.size a l c (hr.grow g0) l0 l1
 have HO := Lib.hid ho
 obtain ⟨u, hu⟩ : ∃ u, Value.slice (some ⟨(w.alloc (.cells #[] 3)).heap.size, 0, none⟩) l.length c' = u := ⟨_, rfl⟩
 rw [hu] at hrun
 have HU := Lib.hid hu.symm
 have HRUN := Lib.hid hrun
 clear ho hrun hu
 go_enter Try.func34, Try.ntmps34
 go_wp2_with (at_builtin; refine wpList_append_run _ _ 22 rfl rfl _ _ _ _ rfl rfl HRUN.out ?_)
 go_ret
 exact ⟨_, _, congrArg Ending.returned HU.out, g0.tr hg, HO.out, by simp⟩

theorem ints02_own (x y : Int) (a : Option Addr) (c : Nat) (w : World) (hr : IRow w a [x, y]) :
  Calls Try.prog 34 #[.slice a 2 c] w fun e w' => ∃ B c', e = .returned (.slice (some ⟨B, 0, none⟩) 2 c') ∧ Gr w w' ∧ Own w' B [.int .i64 x, .int .i64 y] ∧ w.heap.size ≤ B :=
 ints02_ownL [x, y] (by simp) (by simp) a c w hr

/-- The twin of a blank. -/
def TwinPost (p0 p1 s0 s1 hei : Int) (o : Bool) (ba : Option Addr) (bc : Nat) (w : World) (e : Ending) (w' : World) : Prop :=
 ∃ P T tc, e = .returned (.agg #[.int .i64 30, .slice (some ⟨P, 0, none⟩) 4 4, .int .i64 hei, .slice (some ⟨T, 0, none⟩) 2 tc, .slice ba 2 bc, .int .i64 9, .bool o]) ∧ Gr w w' ∧ Own w' P [.int .i64 p0, .int .i64 p1, .int .i64 p0, .int .i64 p1] ∧ IRow w' (some ⟨T, 0, none⟩) (topOf o s0 s1) ∧ w.heap.size ≤ P ∧ w.heap.size ≤ T ∧ T < w'.heap.size

set_option maxRecDepth 100000 in
set_option maxHeartbeats 8000000 in
theorem twin_false (p0 p1 p2 p3 t0 t1 s0 s1 hei : Int) (pa ta ba : Option Addr) (pc tc bc : Nat) (w : World) (hp : IRow w pa [p0, p1, p2, p3]) (ht : IRow w ta [t0, t1]) (hb : IRow w ba [s0, s1]) :
  Calls Try.prog 38 #[.agg #[.int .i64 30, .slice pa 4 pc, .int .i64 hei, .slice ta 2 tc, .slice ba 2 bc, .int .i64 9, .bool false]] w (TwinPost p0 p1 s0 s1 hei false ba bc w) := by
 have gg := (Gr.al w (.cells #[.int .i64 30, .slice pa 4 pc, .int .i64 hei, .slice ta 2 tc, .slice ba 2 bc, .int .i64 9, .bool false] 24)).tr (Gr.al _ (.cells #[.int .i64 0, .slice none 0 0, .int .i64 0, .slice none 0 0, .slice none 0 0, .int .i64 0, .bool false] 24))
 have h1 := (Own.new w [.int .i64 30, .slice pa 4 pc, .int .i64 hei, .slice ta 2 tc, .slice ba 2 bc, .int .i64 9, .bool false] 24 w.heap.size rfl).keep (Gr.al _ (.cells #[.int .i64 0, .slice none 0 0, .int .i64 0, .slice none 0 0, .slice none 0 0, .int .i64 0, .bool false] 24))
 have h2 := Own.new (w.alloc (.cells #[.int .i64 30, .slice pa 4 pc, .int .i64 hei, .slice ta 2 tc, .slice ba 2 bc, .int .i64 9, .bool false] 24)) [.int .i64 0, .slice none 0 0, .int .i64 0, .slice none 0 0, .slice none 0 0, .int .i64 0, .bool false] 24 (w.heap.size + 1) (by simp)
 obtain ⟨pb, pf, rfl, lp0, lp1⟩ := IRow.get hp (j := 0) rfl
 go_enter Try.func38, Try.ntmps38
 go_upto_region 1 with fail
 refine wp_abs (fun U => Gr w U ∧ Own U w.heap.size [.int .i64 30, .slice (some ⟨pb, pf, none⟩) 4 pc, .int .i64 hei, .slice ta 2 tc, .slice ba 2 bc, .int .i64 9, .bool false] ∧ Own U (w.heap.size + 1) [.int .i64 0, .slice none 0 0, .int .i64 0, .slice none 0 0, .slice none 0 0, .int .i64 0, .bool false]) ⟨gg, h1, h2⟩ ?_
 clear gg h1 h2 lp0 lp1
 rintro U ⟨gU, h1, h2⟩
 have hp2 := hp.grow gU
 refine wp_region_facts 17 [(1, 0), (2, 1), (3, 2), (5, 4), (6, 5), (7, 6), (9, 8), (10, 9), (11, 10), (13, 12), (14, 13), (15, 14), (16, 3), (16, 7), (16, 11), (16, 15)] (fun x => ⟨#[.agg #[.int .i64 30, .slice (some ⟨pb, pf, none⟩) 4 pc, .int .i64 hei, .slice ta 2 tc, .slice ba 2 bc, .int .i64 9, .bool false], .pointer (some ⟨w.heap.size, 0, none⟩), .pointer (some ⟨(w.heap.size + 1), 0, none⟩), x 0, x 1, x 2, x 3, x 4, x 5, x 6, x 7, x 8, x 9, x 10, x 11, x 12, x 13, x 14, x 15, x 16, undef, undef, undef, undef, undef, undef, undef, undef, undef, undef], []⟩) (fun _ => undef) [fun _ x => x = .pointer (some ⟨w.heap.size, 1, none⟩), fun _ x => x = .slice (some ⟨pb, pf, none⟩) 4 pc, fun _ x => x = .pointer (some ⟨pb, pf, none⟩), fun _ x => x = .int .i64 p0, fun _ x => x = .pointer (some ⟨w.heap.size, 1, none⟩), fun _ x => x = .slice (some ⟨pb, pf, none⟩) 4 pc, fun _ x => x = .pointer (some ⟨pb, pf + 1, none⟩), fun _ x => x = .int .i64 p1, fun _ x => x = .pointer (some ⟨w.heap.size, 1, none⟩), fun _ x => x = .slice (some ⟨pb, pf, none⟩) 4 pc, fun _ x => x = .pointer (some ⟨pb, pf, none⟩), fun _ x => x = .int .i64 p0, fun _ x => x = .pointer (some ⟨w.heap.size, 1, none⟩), fun _ x => x = .slice (some ⟨pb, pf, none⟩) 4 pc, fun _ x => x = .pointer (some ⟨pb, pf + 1, none⟩), fun _ x => x = .int .i64 p1, fun v x => ∃ a, x = .slice (some ⟨a, 0, none⟩) 4 4 ∧ Own v a [.int .i64 p0, .int .i64 p1, .int .i64 p0, .int .i64 p1] ∧ U.heap.size ≤ a] (by rfl) (by kernel_rfl) (by kernel_rfl) (by kernel_rfl) (stays_cons (Stays.eq _) (stays_cons (Stays.eq _) (stays_cons (Stays.eq _) (stays_cons (Stays.eq _) (stays_cons (Stays.eq _) (stays_cons (Stays.eq _) (stays_cons (Stays.eq _) (stays_cons (Stays.eq _) (stays_cons (Stays.eq _) (stays_cons (Stays.eq _) (stays_cons (Stays.eq _) (stays_cons (Stays.eq _) (stays_cons (Stays.eq _) (stays_cons (Stays.eq _) (stays_cons (Stays.eq _) (stays_cons (Stays.eq _) (stays_cons ((show Stays (fun v x => ∃ a, x = .slice (some ⟨a, 0, none⟩) 4 4 ∧ Own v a [.int .i64 p0, .int .i64 p1, .int .i64 p0, .int .i64 p1] ∧ U.heap.size ≤ a) from fun v v' x g ⟨a, e, r, l⟩ => ⟨a, e, r.keep g, l⟩)) stays_nil))))))))))))))))) ?step1false ?fin1false
 case step1false =>
  rintro i hi x v gv hd K hK
  have hi8 : i = 0 ∨ i = 1 ∨ i = 2 ∨ i = 3 ∨ i = 4 ∨ i = 5 ∨ i = 6 ∨ i = 7 ∨ i = 8 ∨ i = 9 ∨ i = 10 ∨ i = 11 ∨ i = 12 ∨ i = 13 ∨ i = 14 ∨ i = 15 ∨ i = 16 := by omega
  rcases hi8 with rfl | rfl | rfl | rfl | rfl | rfl | rfl | rfl | rfl | rfl | rfl | rfl | rfl | rfl | rfl | rfl | rfl
  ·try dsimp only [upd, Nat.reduceBEq, cond_true, cond_false]
   refine wpOp_step rfl (fun K' hK' => ?_)
   go_simp
   exact hK' _ _ (hK _ _ (Below.refl _ _) (at_of rfl (rfl)))
  ·obtain ⟨x, rfl⟩ := upd_of (show x 0 = .pointer (some ⟨w.heap.size, 1, none⟩) from hd 0 _ (by simp) rfl)
   try dsimp only [upd, Nat.reduceBEq, cond_true, cond_false]
   refine wpOp_step rfl (fun K' hK' => ?_)
   have q := (h1.1.keep gv).2 1 _ rfl
   go_simp
   exact hK' _ _ (hK _ _ (Below.refl _ _) (at_of rfl (rfl)))
  ·obtain ⟨x, rfl⟩ := upd_of (show x 1 = .slice (some ⟨pb, pf, none⟩) 4 pc from hd 1 _ (by simp) rfl)
   try dsimp only [upd, Nat.reduceBEq, cond_true, cond_false]
   refine wpOp_step rfl (fun K' hK' => ?_)
   go_simp
   exact hK' _ _ (hK _ _ (Below.refl _ _) (at_of rfl (rfl)))
  ·obtain ⟨x, rfl⟩ := upd_of (show x 2 = .pointer (some ⟨pb, pf, none⟩) from hd 2 _ (by simp) rfl)
   try dsimp only [upd, Nat.reduceBEq, cond_true, cond_false]
   refine wpOp_step rfl (fun K' hK' => ?_)
   obtain ⟨_, _, e9, _, c9⟩ := IRow.get (hp2.grow gv) (j := 0) rfl
   cases e9
   try simp only [Nat.add_zero] at c9
   go_simp
   exact hK' _ _ (hK _ _ (Below.refl _ _) (at_of rfl (rfl)))
  ·try dsimp only [upd, Nat.reduceBEq, cond_true, cond_false]
   refine wpOp_step rfl (fun K' hK' => ?_)
   go_simp
   exact hK' _ _ (hK _ _ (Below.refl _ _) (at_of rfl (rfl)))
  ·obtain ⟨x, rfl⟩ := upd_of (show x 4 = .pointer (some ⟨w.heap.size, 1, none⟩) from hd 4 _ (by simp) rfl)
   try dsimp only [upd, Nat.reduceBEq, cond_true, cond_false]
   refine wpOp_step rfl (fun K' hK' => ?_)
   have q := (h1.1.keep gv).2 1 _ rfl
   go_simp
   exact hK' _ _ (hK _ _ (Below.refl _ _) (at_of rfl (rfl)))
  ·obtain ⟨x, rfl⟩ := upd_of (show x 5 = .slice (some ⟨pb, pf, none⟩) 4 pc from hd 5 _ (by simp) rfl)
   try dsimp only [upd, Nat.reduceBEq, cond_true, cond_false]
   refine wpOp_step rfl (fun K' hK' => ?_)
   go_simp
   exact hK' _ _ (hK _ _ (Below.refl _ _) (at_of rfl (rfl)))
  ·obtain ⟨x, rfl⟩ := upd_of (show x 6 = .pointer (some ⟨pb, pf + 1, none⟩) from hd 6 _ (by simp) rfl)
   try dsimp only [upd, Nat.reduceBEq, cond_true, cond_false]
   refine wpOp_step rfl (fun K' hK' => ?_)
   obtain ⟨_, _, e9, _, c9⟩ := IRow.get (hp2.grow gv) (j := 1) rfl
   cases e9
   try simp only [Nat.add_zero] at c9
   go_simp
   exact hK' _ _ (hK _ _ (Below.refl _ _) (at_of rfl (rfl)))
  ·try dsimp only [upd, Nat.reduceBEq, cond_true, cond_false]
   refine wpOp_step rfl (fun K' hK' => ?_)
   go_simp
   exact hK' _ _ (hK _ _ (Below.refl _ _) (at_of rfl (rfl)))
  ·obtain ⟨x, rfl⟩ := upd_of (show x 8 = .pointer (some ⟨w.heap.size, 1, none⟩) from hd 8 _ (by simp) rfl)
   try dsimp only [upd, Nat.reduceBEq, cond_true, cond_false]
   refine wpOp_step rfl (fun K' hK' => ?_)
   have q := (h1.1.keep gv).2 1 _ rfl
   go_simp
   exact hK' _ _ (hK _ _ (Below.refl _ _) (at_of rfl (rfl)))
  ·obtain ⟨x, rfl⟩ := upd_of (show x 9 = .slice (some ⟨pb, pf, none⟩) 4 pc from hd 9 _ (by simp) rfl)
   try dsimp only [upd, Nat.reduceBEq, cond_true, cond_false]
   refine wpOp_step rfl (fun K' hK' => ?_)
   go_simp
   exact hK' _ _ (hK _ _ (Below.refl _ _) (at_of rfl (rfl)))
  ·obtain ⟨x, rfl⟩ := upd_of (show x 10 = .pointer (some ⟨pb, pf, none⟩) from hd 10 _ (by simp) rfl)
   try dsimp only [upd, Nat.reduceBEq, cond_true, cond_false]
   refine wpOp_step rfl (fun K' hK' => ?_)
   obtain ⟨_, _, e9, _, c9⟩ := IRow.get (hp2.grow gv) (j := 0) rfl
   cases e9
   try simp only [Nat.add_zero] at c9
   go_simp
   exact hK' _ _ (hK _ _ (Below.refl _ _) (at_of rfl (rfl)))
  ·try dsimp only [upd, Nat.reduceBEq, cond_true, cond_false]
   refine wpOp_step rfl (fun K' hK' => ?_)
   go_simp
   exact hK' _ _ (hK _ _ (Below.refl _ _) (at_of rfl (rfl)))
  ·obtain ⟨x, rfl⟩ := upd_of (show x 12 = .pointer (some ⟨w.heap.size, 1, none⟩) from hd 12 _ (by simp) rfl)
   try dsimp only [upd, Nat.reduceBEq, cond_true, cond_false]
   refine wpOp_step rfl (fun K' hK' => ?_)
   have q := (h1.1.keep gv).2 1 _ rfl
   go_simp
   exact hK' _ _ (hK _ _ (Below.refl _ _) (at_of rfl (rfl)))
  ·obtain ⟨x, rfl⟩ := upd_of (show x 13 = .slice (some ⟨pb, pf, none⟩) 4 pc from hd 13 _ (by simp) rfl)
   try dsimp only [upd, Nat.reduceBEq, cond_true, cond_false]
   refine wpOp_step rfl (fun K' hK' => ?_)
   go_simp
   exact hK' _ _ (hK _ _ (Below.refl _ _) (at_of rfl (rfl)))
  ·obtain ⟨x, rfl⟩ := upd_of (show x 14 = .pointer (some ⟨pb, pf + 1, none⟩) from hd 14 _ (by simp) rfl)
   try dsimp only [upd, Nat.reduceBEq, cond_true, cond_false]
   refine wpOp_step rfl (fun K' hK' => ?_)
   obtain ⟨_, _, e9, _, c9⟩ := IRow.get (hp2.grow gv) (j := 1) rfl
   cases e9
   try simp only [Nat.add_zero] at c9
   go_simp
   exact hK' _ _ (hK _ _ (Below.refl _ _) (at_of rfl (rfl)))
  ·obtain ⟨x, rfl⟩ := upd_of (show x 3 = .int .i64 p0 from hd 3 _ (by simp) rfl)
   obtain ⟨x, rfl⟩ := upd_of (show x 7 = .int .i64 p1 from hd 7 _ (by simp) rfl)
   obtain ⟨x, rfl⟩ := upd_of (show x 11 = .int .i64 p0 from hd 11 _ (by simp) rfl)
   obtain ⟨x, rfl⟩ := upd_of (show x 15 = .int .i64 p1 from hd 15 _ (by simp) rfl)
   try dsimp only [upd, Nat.reduceBEq, cond_true, cond_false]
   refine wpOp_step rfl (fun K' hK' => ?_)
   go_simp
   have hg := Gr.al v (.cells (List.toArray [.int .i64 p0, .int .i64 p1, .int .i64 p0, .int .i64 p1]) 3)
   exact hK' _ _ (hK _ _ hg (at_of rfl (⟨_, rfl, Own.new v [.int .i64 p0, .int .i64 p1, .int .i64 p0, .int .i64 p1] 3 v.heap.size rfl, gv.size⟩)))
 case fin1false =>
  rintro x v gv hd
  obtain ⟨N, e16, rN, lN⟩ := hd 16 _ (by omega) rfl
  obtain ⟨x, rfl⟩ := upd_of (show x 16 = .slice (some ⟨N, 0, none⟩) 4 4 from e16)
  clear hd
  show wpList Try.prog _ _ (List.drop 17 _) (⟨#[_, _, _, x 0, x 1, x 2, x 3, x 4, x 5, x 6, x 7, x 8, x 9, x 10, x 11, x 12, x 13, x 14, x 15, .slice (some ⟨N, 0, none⟩) 4 4, _, _, _, _, _, _, _, _, _, _], []⟩ : Act) v
  simp only [List.drop_succ_cons, List.drop_zero]
  have hu : w.heap.size + 1 < U.heap.size := h2.1.1
  replace h1 := h1.keep gv
  replace h2 := h2.keep gv
  replace gU := gU.tr gv
  clear gv e16
  have hnw : N ≠ w.heap.size := by omega
  have hnw1 : N ≠ w.heap.size + 1 := by omega
  have hle : w.heap.size ≤ w.heap.size := Nat.le_refl _
  have q1 := h1.1.2 1 _ rfl
  have z1 := h1.2 1
  go_upto_region 2 with fail
  refine wp_abs (fun Z => Gr w Z ∧ Own Z w.heap.size [.int .i64 30, .slice (some ⟨N, 0, none⟩) 4 4, .int .i64 hei, .slice ta 2 tc, .slice ba 2 bc, .int .i64 9, .bool false] ∧ Own Z (w.heap.size + 1) [.int .i64 0, .slice none 0 0, .int .i64 0, .slice none 0 0, .slice none 0 0, .int .i64 0, .bool false] ∧ Own Z N [.int .i64 p0, .int .i64 p1, .int .i64 p0, .int .i64 p1]) ⟨gU.setCell (p := ⟨w.heap.size, 1, none⟩) hle _, h1.set (i := 1) (by simp), h2.other (by omega), rN.other (by omega)⟩ ?_
  clear gU h1 h2 rN q1 z1
  rintro Z ⟨gZ, h1, h2, rN⟩
  have q4 := h1.1.2 4 _ rfl
  have q3 := h1.1.2 3 _ rfl
  go_upto_region 3 with (go_at_call 34; refine (ints02_own s0 s1 _ _ _ (hb.grow gZ)).mono ?_; rintro e w1 ⟨Tb, tcap, rfl, g1, rT, lT⟩; have lTw := Nat.le_trans gZ.size lT; have hq2 := h2.1.1; have hqN := rN.1.1; replace gZ := gZ.tr g1; replace h1 := h1.keep g1; replace h2 := h2.keep g1; replace rN := rN.keep g1; clear q4 q3; have q3 := h1.1.2 3 _ rfl; have z3 := h1.2 3)
  have nT0 : Tb ≠ w.heap.size := by omega
  have nT1 : Tb ≠ w.heap.size + 1 := by omega
  have nTN : Tb ≠ N := by omega
  refine wp_abs (fun Z => Gr w Z ∧ Own Z w.heap.size [.int .i64 30, .slice (some ⟨N, 0, none⟩) 4 4, .int .i64 hei, .slice (some ⟨Tb, 0, none⟩) 2 tcap, .slice ba 2 bc, .int .i64 9, .bool false] ∧ Own Z (w.heap.size + 1) [.int .i64 0, .slice none 0 0, .int .i64 0, .slice none 0 0, .slice none 0 0, .int .i64 0, .bool false] ∧ Own Z N [.int .i64 p0, .int .i64 p1, .int .i64 p0, .int .i64 p1] ∧ Own Z Tb [.int .i64 s0, .int .i64 s1]) ⟨gZ.setCell (p := ⟨w.heap.size, 3, none⟩) hle _, h1.set (i := 3) (by simp), h2.other (by omega), rN.other (by omega), rT.other (by omega)⟩ ?_
  clear gZ h1 h2 rN rT q3 z3 lT hq2 hqN g1
  rintro Y ⟨gY, h1, h2, rN, rT⟩
  have q6 := h1.1.2 6 _ rfl
  go_upto_region 5 with fail
  refine wp_abs (fun Z => Gr w Z ∧ Own Z w.heap.size [.int .i64 30, .slice (some ⟨N, 0, none⟩) 4 4, .int .i64 hei, .slice (some ⟨Tb, 0, none⟩) 2 tcap, .slice ba 2 bc, .int .i64 9, .bool false] ∧ Own Z (w.heap.size + 1) [.int .i64 0, .slice none 0 0, .int .i64 0, .slice none 0 0, .slice none 0 0, .int .i64 0, .bool false] ∧ Own Z N [.int .i64 p0, .int .i64 p1, .int .i64 p0, .int .i64 p1] ∧ Own Z Tb [.int .i64 s0, .int .i64 s1]) ⟨gY, h1, h2, rN, rT⟩ ?_
  clear gY h1 h2 rN rT q6
  rintro X ⟨gX, h1, h2, rN, rT⟩
  have a0 := h1.1.2 0 _ rfl
  have b0 := h2.1.2 0 _ rfl
  have y0 := h2.2 0
  have a1 := h1.1.2 1 _ rfl
  have b1 := h2.1.2 1 _ rfl
  have y1 := h2.2 1
  have a2 := h1.1.2 2 _ rfl
  have b2 := h2.1.2 2 _ rfl
  have y2 := h2.2 2
  have a3 := h1.1.2 3 _ rfl
  have b3 := h2.1.2 3 _ rfl
  have y3 := h2.2 3
  have a4 := h1.1.2 4 _ rfl
  have b4 := h2.1.2 4 _ rfl
  have y4 := h2.2 4
  have a5 := h1.1.2 5 _ rfl
  have b5 := h2.1.2 5 _ rfl
  have y5 := h2.2 5
  have a6 := h1.1.2 6 _ rfl
  have b6 := h2.1.2 6 _ rfl
  have y6 := h2.2 6
  have hle1 : w.heap.size ≤ w.heap.size + 1 := Nat.le_succ _
  go_wp2
  refine bodyPost_ret (v := .agg #[.int .i64 30, .slice (some ⟨N, 0, none⟩) 4 4, .int .i64 hei, .slice (some ⟨Tb, 0, none⟩) 2 tcap, .slice ba 2 bc, .int .i64 9, .bool false]) (by simp [results, Try.results38, go_sem, b0, b1, b2, b3, b4, b5, b6]) rfl ⟨N, Tb, tcap, rfl, (((((((gX.setCell (p := ⟨w.heap.size + 1, 0, none⟩) hle1 _).setCell (p := ⟨w.heap.size + 1, 1, none⟩) hle1 _).setCell (p := ⟨w.heap.size + 1, 2, none⟩) hle1 _).setCell (p := ⟨w.heap.size + 1, 3, none⟩) hle1 _).setCell (p := ⟨w.heap.size + 1, 4, none⟩) hle1 _).setCell (p := ⟨w.heap.size + 1, 5, none⟩) hle1 _).setCell (p := ⟨w.heap.size + 1, 6, none⟩) hle1 _), (((((((rN.other (by omega)).other (by omega)).other (by omega)).other (by omega)).other (by omega)).other (by omega)).other (by omega)), Own.row (l := [s0, s1]) (((((((rT.other (by omega)).other (by omega)).other (by omega)).other (by omega)).other (by omega)).other (by omega)).other (by omega)) (by simp), by omega, lTw, ?_⟩
  simpa using (show Tb < X.heap.size from rT.1.1)

set_option maxRecDepth 100000 in
set_option maxHeartbeats 8000000 in
theorem twin_true (p0 p1 p2 p3 t0 t1 s0 s1 hei : Int) (pa ta ba : Option Addr) (pc tc bc : Nat) (w : World) (hp : IRow w pa [p0, p1, p2, p3]) (ht : IRow w ta [t0, t1]) (hb : IRow w ba [s0, s1]) :
  Calls Try.prog 38 #[.agg #[.int .i64 30, .slice pa 4 pc, .int .i64 hei, .slice ta 2 tc, .slice ba 2 bc, .int .i64 9, .bool true]] w (TwinPost p0 p1 s0 s1 hei true ba bc w) := by
 have gg := (Gr.al w (.cells #[.int .i64 30, .slice pa 4 pc, .int .i64 hei, .slice ta 2 tc, .slice ba 2 bc, .int .i64 9, .bool true] 24)).tr (Gr.al _ (.cells #[.int .i64 0, .slice none 0 0, .int .i64 0, .slice none 0 0, .slice none 0 0, .int .i64 0, .bool false] 24))
 have h1 := (Own.new w [.int .i64 30, .slice pa 4 pc, .int .i64 hei, .slice ta 2 tc, .slice ba 2 bc, .int .i64 9, .bool true] 24 w.heap.size rfl).keep (Gr.al _ (.cells #[.int .i64 0, .slice none 0 0, .int .i64 0, .slice none 0 0, .slice none 0 0, .int .i64 0, .bool false] 24))
 have h2 := Own.new (w.alloc (.cells #[.int .i64 30, .slice pa 4 pc, .int .i64 hei, .slice ta 2 tc, .slice ba 2 bc, .int .i64 9, .bool true] 24)) [.int .i64 0, .slice none 0 0, .int .i64 0, .slice none 0 0, .slice none 0 0, .int .i64 0, .bool false] 24 (w.heap.size + 1) (by simp)
 obtain ⟨pb, pf, rfl, lp0, lp1⟩ := IRow.get hp (j := 0) rfl
 go_enter Try.func38, Try.ntmps38
 go_upto_region 1 with fail
 refine wp_abs (fun U => Gr w U ∧ Own U w.heap.size [.int .i64 30, .slice (some ⟨pb, pf, none⟩) 4 pc, .int .i64 hei, .slice ta 2 tc, .slice ba 2 bc, .int .i64 9, .bool true] ∧ Own U (w.heap.size + 1) [.int .i64 0, .slice none 0 0, .int .i64 0, .slice none 0 0, .slice none 0 0, .int .i64 0, .bool false]) ⟨gg, h1, h2⟩ ?_
 clear gg h1 h2 lp0 lp1
 rintro U ⟨gU, h1, h2⟩
 have hp2 := hp.grow gU
 refine wp_region_facts 17 [(1, 0), (2, 1), (3, 2), (5, 4), (6, 5), (7, 6), (9, 8), (10, 9), (11, 10), (13, 12), (14, 13), (15, 14), (16, 3), (16, 7), (16, 11), (16, 15)] (fun x => ⟨#[.agg #[.int .i64 30, .slice (some ⟨pb, pf, none⟩) 4 pc, .int .i64 hei, .slice ta 2 tc, .slice ba 2 bc, .int .i64 9, .bool true], .pointer (some ⟨w.heap.size, 0, none⟩), .pointer (some ⟨(w.heap.size + 1), 0, none⟩), x 0, x 1, x 2, x 3, x 4, x 5, x 6, x 7, x 8, x 9, x 10, x 11, x 12, x 13, x 14, x 15, x 16, undef, undef, undef, undef, undef, undef, undef, undef, undef, undef], []⟩) (fun _ => undef) [fun _ x => x = .pointer (some ⟨w.heap.size, 1, none⟩), fun _ x => x = .slice (some ⟨pb, pf, none⟩) 4 pc, fun _ x => x = .pointer (some ⟨pb, pf, none⟩), fun _ x => x = .int .i64 p0, fun _ x => x = .pointer (some ⟨w.heap.size, 1, none⟩), fun _ x => x = .slice (some ⟨pb, pf, none⟩) 4 pc, fun _ x => x = .pointer (some ⟨pb, pf + 1, none⟩), fun _ x => x = .int .i64 p1, fun _ x => x = .pointer (some ⟨w.heap.size, 1, none⟩), fun _ x => x = .slice (some ⟨pb, pf, none⟩) 4 pc, fun _ x => x = .pointer (some ⟨pb, pf, none⟩), fun _ x => x = .int .i64 p0, fun _ x => x = .pointer (some ⟨w.heap.size, 1, none⟩), fun _ x => x = .slice (some ⟨pb, pf, none⟩) 4 pc, fun _ x => x = .pointer (some ⟨pb, pf + 1, none⟩), fun _ x => x = .int .i64 p1, fun v x => ∃ a, x = .slice (some ⟨a, 0, none⟩) 4 4 ∧ Own v a [.int .i64 p0, .int .i64 p1, .int .i64 p0, .int .i64 p1] ∧ U.heap.size ≤ a] (by rfl) (by kernel_rfl) (by kernel_rfl) (by kernel_rfl) (stays_cons (Stays.eq _) (stays_cons (Stays.eq _) (stays_cons (Stays.eq _) (stays_cons (Stays.eq _) (stays_cons (Stays.eq _) (stays_cons (Stays.eq _) (stays_cons (Stays.eq _) (stays_cons (Stays.eq _) (stays_cons (Stays.eq _) (stays_cons (Stays.eq _) (stays_cons (Stays.eq _) (stays_cons (Stays.eq _) (stays_cons (Stays.eq _) (stays_cons (Stays.eq _) (stays_cons (Stays.eq _) (stays_cons (Stays.eq _) (stays_cons ((show Stays (fun v x => ∃ a, x = .slice (some ⟨a, 0, none⟩) 4 4 ∧ Own v a [.int .i64 p0, .int .i64 p1, .int .i64 p0, .int .i64 p1] ∧ U.heap.size ≤ a) from fun v v' x g ⟨a, e, r, l⟩ => ⟨a, e, r.keep g, l⟩)) stays_nil))))))))))))))))) ?step1true ?fin1true
 case step1true =>
  rintro i hi x v gv hd K hK
  have hi8 : i = 0 ∨ i = 1 ∨ i = 2 ∨ i = 3 ∨ i = 4 ∨ i = 5 ∨ i = 6 ∨ i = 7 ∨ i = 8 ∨ i = 9 ∨ i = 10 ∨ i = 11 ∨ i = 12 ∨ i = 13 ∨ i = 14 ∨ i = 15 ∨ i = 16 := by omega
  rcases hi8 with rfl | rfl | rfl | rfl | rfl | rfl | rfl | rfl | rfl | rfl | rfl | rfl | rfl | rfl | rfl | rfl | rfl
  ·try dsimp only [upd, Nat.reduceBEq, cond_true, cond_false]
   refine wpOp_step rfl (fun K' hK' => ?_)
   go_simp
   exact hK' _ _ (hK _ _ (Below.refl _ _) (at_of rfl (rfl)))
  ·obtain ⟨x, rfl⟩ := upd_of (show x 0 = .pointer (some ⟨w.heap.size, 1, none⟩) from hd 0 _ (by simp) rfl)
   try dsimp only [upd, Nat.reduceBEq, cond_true, cond_false]
   refine wpOp_step rfl (fun K' hK' => ?_)
   have q := (h1.1.keep gv).2 1 _ rfl
   go_simp
   exact hK' _ _ (hK _ _ (Below.refl _ _) (at_of rfl (rfl)))
  ·obtain ⟨x, rfl⟩ := upd_of (show x 1 = .slice (some ⟨pb, pf, none⟩) 4 pc from hd 1 _ (by simp) rfl)
   try dsimp only [upd, Nat.reduceBEq, cond_true, cond_false]
   refine wpOp_step rfl (fun K' hK' => ?_)
   go_simp
   exact hK' _ _ (hK _ _ (Below.refl _ _) (at_of rfl (rfl)))
  ·obtain ⟨x, rfl⟩ := upd_of (show x 2 = .pointer (some ⟨pb, pf, none⟩) from hd 2 _ (by simp) rfl)
   try dsimp only [upd, Nat.reduceBEq, cond_true, cond_false]
   refine wpOp_step rfl (fun K' hK' => ?_)
   obtain ⟨_, _, e9, _, c9⟩ := IRow.get (hp2.grow gv) (j := 0) rfl
   cases e9
   try simp only [Nat.add_zero] at c9
   go_simp
   exact hK' _ _ (hK _ _ (Below.refl _ _) (at_of rfl (rfl)))
  ·try dsimp only [upd, Nat.reduceBEq, cond_true, cond_false]
   refine wpOp_step rfl (fun K' hK' => ?_)
   go_simp
   exact hK' _ _ (hK _ _ (Below.refl _ _) (at_of rfl (rfl)))
  ·obtain ⟨x, rfl⟩ := upd_of (show x 4 = .pointer (some ⟨w.heap.size, 1, none⟩) from hd 4 _ (by simp) rfl)
   try dsimp only [upd, Nat.reduceBEq, cond_true, cond_false]
   refine wpOp_step rfl (fun K' hK' => ?_)
   have q := (h1.1.keep gv).2 1 _ rfl
   go_simp
   exact hK' _ _ (hK _ _ (Below.refl _ _) (at_of rfl (rfl)))
  ·obtain ⟨x, rfl⟩ := upd_of (show x 5 = .slice (some ⟨pb, pf, none⟩) 4 pc from hd 5 _ (by simp) rfl)
   try dsimp only [upd, Nat.reduceBEq, cond_true, cond_false]
   refine wpOp_step rfl (fun K' hK' => ?_)
   go_simp
   exact hK' _ _ (hK _ _ (Below.refl _ _) (at_of rfl (rfl)))
  ·obtain ⟨x, rfl⟩ := upd_of (show x 6 = .pointer (some ⟨pb, pf + 1, none⟩) from hd 6 _ (by simp) rfl)
   try dsimp only [upd, Nat.reduceBEq, cond_true, cond_false]
   refine wpOp_step rfl (fun K' hK' => ?_)
   obtain ⟨_, _, e9, _, c9⟩ := IRow.get (hp2.grow gv) (j := 1) rfl
   cases e9
   try simp only [Nat.add_zero] at c9
   go_simp
   exact hK' _ _ (hK _ _ (Below.refl _ _) (at_of rfl (rfl)))
  ·try dsimp only [upd, Nat.reduceBEq, cond_true, cond_false]
   refine wpOp_step rfl (fun K' hK' => ?_)
   go_simp
   exact hK' _ _ (hK _ _ (Below.refl _ _) (at_of rfl (rfl)))
  ·obtain ⟨x, rfl⟩ := upd_of (show x 8 = .pointer (some ⟨w.heap.size, 1, none⟩) from hd 8 _ (by simp) rfl)
   try dsimp only [upd, Nat.reduceBEq, cond_true, cond_false]
   refine wpOp_step rfl (fun K' hK' => ?_)
   have q := (h1.1.keep gv).2 1 _ rfl
   go_simp
   exact hK' _ _ (hK _ _ (Below.refl _ _) (at_of rfl (rfl)))
  ·obtain ⟨x, rfl⟩ := upd_of (show x 9 = .slice (some ⟨pb, pf, none⟩) 4 pc from hd 9 _ (by simp) rfl)
   try dsimp only [upd, Nat.reduceBEq, cond_true, cond_false]
   refine wpOp_step rfl (fun K' hK' => ?_)
   go_simp
   exact hK' _ _ (hK _ _ (Below.refl _ _) (at_of rfl (rfl)))
  ·obtain ⟨x, rfl⟩ := upd_of (show x 10 = .pointer (some ⟨pb, pf, none⟩) from hd 10 _ (by simp) rfl)
   try dsimp only [upd, Nat.reduceBEq, cond_true, cond_false]
   refine wpOp_step rfl (fun K' hK' => ?_)
   obtain ⟨_, _, e9, _, c9⟩ := IRow.get (hp2.grow gv) (j := 0) rfl
   cases e9
   try simp only [Nat.add_zero] at c9
   go_simp
   exact hK' _ _ (hK _ _ (Below.refl _ _) (at_of rfl (rfl)))
  ·try dsimp only [upd, Nat.reduceBEq, cond_true, cond_false]
   refine wpOp_step rfl (fun K' hK' => ?_)
   go_simp
   exact hK' _ _ (hK _ _ (Below.refl _ _) (at_of rfl (rfl)))
  ·obtain ⟨x, rfl⟩ := upd_of (show x 12 = .pointer (some ⟨w.heap.size, 1, none⟩) from hd 12 _ (by simp) rfl)
   try dsimp only [upd, Nat.reduceBEq, cond_true, cond_false]
   refine wpOp_step rfl (fun K' hK' => ?_)
   have q := (h1.1.keep gv).2 1 _ rfl
   go_simp
   exact hK' _ _ (hK _ _ (Below.refl _ _) (at_of rfl (rfl)))
  ·obtain ⟨x, rfl⟩ := upd_of (show x 13 = .slice (some ⟨pb, pf, none⟩) 4 pc from hd 13 _ (by simp) rfl)
   try dsimp only [upd, Nat.reduceBEq, cond_true, cond_false]
   refine wpOp_step rfl (fun K' hK' => ?_)
   go_simp
   exact hK' _ _ (hK _ _ (Below.refl _ _) (at_of rfl (rfl)))
  ·obtain ⟨x, rfl⟩ := upd_of (show x 14 = .pointer (some ⟨pb, pf + 1, none⟩) from hd 14 _ (by simp) rfl)
   try dsimp only [upd, Nat.reduceBEq, cond_true, cond_false]
   refine wpOp_step rfl (fun K' hK' => ?_)
   obtain ⟨_, _, e9, _, c9⟩ := IRow.get (hp2.grow gv) (j := 1) rfl
   cases e9
   try simp only [Nat.add_zero] at c9
   go_simp
   exact hK' _ _ (hK _ _ (Below.refl _ _) (at_of rfl (rfl)))
  ·obtain ⟨x, rfl⟩ := upd_of (show x 3 = .int .i64 p0 from hd 3 _ (by simp) rfl)
   obtain ⟨x, rfl⟩ := upd_of (show x 7 = .int .i64 p1 from hd 7 _ (by simp) rfl)
   obtain ⟨x, rfl⟩ := upd_of (show x 11 = .int .i64 p0 from hd 11 _ (by simp) rfl)
   obtain ⟨x, rfl⟩ := upd_of (show x 15 = .int .i64 p1 from hd 15 _ (by simp) rfl)
   try dsimp only [upd, Nat.reduceBEq, cond_true, cond_false]
   refine wpOp_step rfl (fun K' hK' => ?_)
   go_simp
   have hg := Gr.al v (.cells (List.toArray [.int .i64 p0, .int .i64 p1, .int .i64 p0, .int .i64 p1]) 3)
   exact hK' _ _ (hK _ _ hg (at_of rfl (⟨_, rfl, Own.new v [.int .i64 p0, .int .i64 p1, .int .i64 p0, .int .i64 p1] 3 v.heap.size rfl, gv.size⟩)))
 case fin1true =>
  rintro x v gv hd
  obtain ⟨N, e16, rN, lN⟩ := hd 16 _ (by omega) rfl
  obtain ⟨x, rfl⟩ := upd_of (show x 16 = .slice (some ⟨N, 0, none⟩) 4 4 from e16)
  clear hd
  show wpList Try.prog _ _ (List.drop 17 _) (⟨#[_, _, _, x 0, x 1, x 2, x 3, x 4, x 5, x 6, x 7, x 8, x 9, x 10, x 11, x 12, x 13, x 14, x 15, .slice (some ⟨N, 0, none⟩) 4 4, _, _, _, _, _, _, _, _, _, _], []⟩ : Act) v
  simp only [List.drop_succ_cons, List.drop_zero]
  have hu : w.heap.size + 1 < U.heap.size := h2.1.1
  replace h1 := h1.keep gv
  replace h2 := h2.keep gv
  replace gU := gU.tr gv
  clear gv e16
  have hnw : N ≠ w.heap.size := by omega
  have hnw1 : N ≠ w.heap.size + 1 := by omega
  have hle : w.heap.size ≤ w.heap.size := Nat.le_refl _
  have q1 := h1.1.2 1 _ rfl
  have z1 := h1.2 1
  go_upto_region 2 with fail
  refine wp_abs (fun Z => Gr w Z ∧ Own Z w.heap.size [.int .i64 30, .slice (some ⟨N, 0, none⟩) 4 4, .int .i64 hei, .slice ta 2 tc, .slice ba 2 bc, .int .i64 9, .bool true] ∧ Own Z (w.heap.size + 1) [.int .i64 0, .slice none 0 0, .int .i64 0, .slice none 0 0, .slice none 0 0, .int .i64 0, .bool false] ∧ Own Z N [.int .i64 p0, .int .i64 p1, .int .i64 p0, .int .i64 p1]) ⟨gU.setCell (p := ⟨w.heap.size, 1, none⟩) hle _, h1.set (i := 1) (by simp), h2.other (by omega), rN.other (by omega)⟩ ?_
  clear gU h1 h2 rN q1 z1
  rintro Z ⟨gZ, h1, h2, rN⟩
  have q4 := h1.1.2 4 _ rfl
  have q3 := h1.1.2 3 _ rfl
  go_upto_region 3 with (go_at_call 34; refine (ints02_own s0 s1 _ _ _ (hb.grow gZ)).mono ?_; rintro e w1 ⟨Tb, tcap, rfl, g1, rT, lT⟩; have lTw := Nat.le_trans gZ.size lT; have hq2 := h2.1.1; have hqN := rN.1.1; replace gZ := gZ.tr g1; replace h1 := h1.keep g1; replace h2 := h2.keep g1; replace rN := rN.keep g1; clear q4 q3; have q3 := h1.1.2 3 _ rfl; have z3 := h1.2 3)
  have nT0 : Tb ≠ w.heap.size := by omega
  have nT1 : Tb ≠ w.heap.size + 1 := by omega
  have nTN : Tb ≠ N := by omega
  refine wp_abs (fun Z => Gr w Z ∧ Own Z w.heap.size [.int .i64 30, .slice (some ⟨N, 0, none⟩) 4 4, .int .i64 hei, .slice (some ⟨Tb, 0, none⟩) 2 tcap, .slice ba 2 bc, .int .i64 9, .bool true] ∧ Own Z (w.heap.size + 1) [.int .i64 0, .slice none 0 0, .int .i64 0, .slice none 0 0, .slice none 0 0, .int .i64 0, .bool false] ∧ Own Z N [.int .i64 p0, .int .i64 p1, .int .i64 p0, .int .i64 p1] ∧ Own Z Tb [.int .i64 s0, .int .i64 s1]) ⟨gZ.setCell (p := ⟨w.heap.size, 3, none⟩) hle _, h1.set (i := 3) (by simp), h2.other (by omega), rN.other (by omega), rT.other (by omega)⟩ ?_
  clear gZ h1 h2 rN rT q3 z3 lT hq2 hqN g1
  rintro Y ⟨gY, h1, h2, rN, rT⟩
  have q6 := h1.1.2 6 _ rfl
  have gD := Gr.al Y (.cells #[.int .i64 0, .int .i64 0] 3)
  have q3 := (h1.keep gD).1.2 3 _ rfl
  have z3 := (h1.keep gD).2 3
  obtain ⟨D, hD⟩ : ∃ D, D = Y.heap.size := ⟨_, rfl⟩
  have hw1 := h2.1.1
  have hwN := rN.1.1
  have hDw : w.heap.size ≤ D := by omega
  have nD0 : D ≠ w.heap.size := by omega
  have nD1 : D ≠ w.heap.size + 1 := by omega
  have nDN : D ≠ N := by omega
  go_upto_region 5 with fail
  rw [← hD]
  have rD := Own.new Y [.int .i64 0, .int .i64 0] 3 D hD
  refine wp_abs (fun Z => Gr w Z ∧ Own Z w.heap.size [.int .i64 30, .slice (some ⟨N, 0, none⟩) 4 4, .int .i64 hei, .slice (some ⟨D, 0, none⟩) 2 2, .slice ba 2 bc, .int .i64 9, .bool true] ∧ Own Z (w.heap.size + 1) [.int .i64 0, .slice none 0 0, .int .i64 0, .slice none 0 0, .slice none 0 0, .int .i64 0, .bool false] ∧ Own Z N [.int .i64 p0, .int .i64 p1, .int .i64 p0, .int .i64 p1] ∧ Own Z D [.int .i64 0, .int .i64 0]) ⟨(gY.tr gD).setCell (p := ⟨w.heap.size, 3, none⟩) hle _, (h1.keep gD).set (i := 3) (by simp), (h2.keep gD).other (by omega), (rN.keep gD).other (by omega), rD.other (by omega)⟩ ?_
  clear gY h1 h2 rN rT q3 z3 q6 rD gD hD hw1 hwN
  rintro X ⟨gX, h1, h2, rN, rT⟩
  have a0 := h1.1.2 0 _ rfl
  have b0 := h2.1.2 0 _ rfl
  have y0 := h2.2 0
  have a1 := h1.1.2 1 _ rfl
  have b1 := h2.1.2 1 _ rfl
  have y1 := h2.2 1
  have a2 := h1.1.2 2 _ rfl
  have b2 := h2.1.2 2 _ rfl
  have y2 := h2.2 2
  have a3 := h1.1.2 3 _ rfl
  have b3 := h2.1.2 3 _ rfl
  have y3 := h2.2 3
  have a4 := h1.1.2 4 _ rfl
  have b4 := h2.1.2 4 _ rfl
  have y4 := h2.2 4
  have a5 := h1.1.2 5 _ rfl
  have b5 := h2.1.2 5 _ rfl
  have y5 := h2.2 5
  have a6 := h1.1.2 6 _ rfl
  have b6 := h2.1.2 6 _ rfl
  have y6 := h2.2 6
  have hle1 : w.heap.size ≤ w.heap.size + 1 := Nat.le_succ _
  go_wp2
  refine bodyPost_ret (v := .agg #[.int .i64 30, .slice (some ⟨N, 0, none⟩) 4 4, .int .i64 hei, .slice (some ⟨D, 0, none⟩) 2 2, .slice ba 2 bc, .int .i64 9, .bool true]) (by simp [results, Try.results38, go_sem, b0, b1, b2, b3, b4, b5, b6]) rfl ⟨N, D, 2, rfl, (((((((gX.setCell (p := ⟨w.heap.size + 1, 0, none⟩) hle1 _).setCell (p := ⟨w.heap.size + 1, 1, none⟩) hle1 _).setCell (p := ⟨w.heap.size + 1, 2, none⟩) hle1 _).setCell (p := ⟨w.heap.size + 1, 3, none⟩) hle1 _).setCell (p := ⟨w.heap.size + 1, 4, none⟩) hle1 _).setCell (p := ⟨w.heap.size + 1, 5, none⟩) hle1 _).setCell (p := ⟨w.heap.size + 1, 6, none⟩) hle1 _), (((((((rN.other (by omega)).other (by omega)).other (by omega)).other (by omega)).other (by omega)).other (by omega)).other (by omega)), Own.row (l := [0, 0]) (((((((rT.other (by omega)).other (by omega)).other (by omega)).other (by omega)).other (by omega)).other (by omega)).other (by omega)) (by simp), by omega, hDw, ?_⟩
  simpa using (show D < X.heap.size from rT.1.1)

set_option maxRecDepth 100000 in
set_option maxHeartbeats 16000000 in
theorem wished_any (x0 x1 x2 x3 x4 x5 x6 x7 x8 : Int) (x9 : Bool) (x10 x11 x12 x13 x14 x15 x16 : Int) (hw0 : By x12) (hw1 : By x13) (hw2 : By x14) (hw3 : By x15) (hw4 : By x16) (p0 p1 p2 p3 t0 t1 s0 s1 hei : Int) (o : Bool) (cl ch : Int) (hB : Hid (Sheet4 p0 p1 p2 p3 t0 t1 s0 s1 hei o)) (hC : Hid (Cal4 cl ch)) (pa ta ba : Option Addr) (pc tc bc : Nat) (w : World) (hp : IRow w pa [p0, p1, p2, p3]) (ht : IRow w ta [t0, t1]) (hb : IRow w ba [s0, s1]) :
  Calls Try.prog 41 #[.agg #[.int .u8 x0, .int .u8 x1, .int .u8 x2, .int .u8 x3, .int .u8 x4, .int .u8 x5, .int .u8 x6, .int .u8 x7, .int .u8 x8, .bool x9, .int .u8 x10, .int .u8 x11, .int .u8 x12, .int .u8 x13, .int .u8 x14, .int .u8 x15, .int .u8 x16], .agg #[.int .i64 30, .slice pa 4 pc, .int .i64 hei, .slice ta 2 tc, .slice ba 2 bc, .int .i64 9, .bool o], .agg #[.int .i64 cl, .int .i64 ch]] w fun e w' => e = .returned (.agg #[.int .i64 (arL (1000 * p0 - ch) (x12 % 4) 0 3000), .int .i64 (arH (1000 * p0 - cl) (x12 % 4) 0 3000), .int .i64 (arL (1000 * p1 - ch) (x13 % 4) 0 3000), .int .i64 (arH (1000 * p1 - cl) (x13 % 4) 0 3000), .int .i64 (arL (micH hei o ch) (x14 % 4) 0 3000), .int .i64 (arH (micH hei o cl) (x14 % 4) 0 3000), .int .i64 (arL (1000 * p1 - ch - 2000 * s0) (x15 % 6) (-3000) 3000), .int .i64 (arH (1000 * p1 - cl - 2000 * s0) (x15 % 6) (-3000) 3000), .int .i64 (arL (1000 * p0 - ch - 2000 * s1) (x16 % 6) (-3000) 3000), .int .i64 (arH (1000 * p0 - cl - 2000 * s1) (x16 % 6) (-3000) 3000), .bool o]) ∧ Gr w w' := by
 have gg := (((Gr.al w (.cells #[.int .u8 x0, .int .u8 x1, .int .u8 x2, .int .u8 x3, .int .u8 x4, .int .u8 x5, .int .u8 x6, .int .u8 x7, .int .u8 x8, .bool x9, .int .u8 x10, .int .u8 x11, .int .u8 x12, .int .u8 x13, .int .u8 x14, .int .u8 x15, .int .u8 x16] 69)).tr (Gr.al (w.alloc (.cells #[.int .u8 x0, .int .u8 x1, .int .u8 x2, .int .u8 x3, .int .u8 x4, .int .u8 x5, .int .u8 x6, .int .u8 x7, .int .u8 x8, .bool x9, .int .u8 x10, .int .u8 x11, .int .u8 x12, .int .u8 x13, .int .u8 x14, .int .u8 x15, .int .u8 x16] 69)) (.cells #[.int .i64 30, .slice pa 4 pc, .int .i64 hei, .slice ta 2 tc, .slice ba 2 bc, .int .i64 9, .bool o] 24))).tr (Gr.al ((w.alloc (.cells #[.int .u8 x0, .int .u8 x1, .int .u8 x2, .int .u8 x3, .int .u8 x4, .int .u8 x5, .int .u8 x6, .int .u8 x7, .int .u8 x8, .bool x9, .int .u8 x10, .int .u8 x11, .int .u8 x12, .int .u8 x13, .int .u8 x14, .int .u8 x15, .int .u8 x16] 69)).alloc (.cells #[.int .i64 30, .slice pa 4 pc, .int .i64 hei, .slice ta 2 tc, .slice ba 2 bc, .int .i64 9, .bool o] 24)) (.cells #[.int .i64 cl, .int .i64 ch] 37))).tr (Gr.al (((w.alloc (.cells #[.int .u8 x0, .int .u8 x1, .int .u8 x2, .int .u8 x3, .int .u8 x4, .int .u8 x5, .int .u8 x6, .int .u8 x7, .int .u8 x8, .bool x9, .int .u8 x10, .int .u8 x11, .int .u8 x12, .int .u8 x13, .int .u8 x14, .int .u8 x15, .int .u8 x16] 69)).alloc (.cells #[.int .i64 30, .slice pa 4 pc, .int .i64 hei, .slice ta 2 tc, .slice ba 2 bc, .int .i64 9, .bool o] 24)).alloc (.cells #[.int .i64 cl, .int .i64 ch] 37)) (.cells #[.int .i64 0, .int .i64 0, .int .i64 0, .int .i64 0, .int .i64 0, .int .i64 0, .int .i64 0, .int .i64 0, .int .i64 0, .int .i64 0, .bool false] 48))
 have h0 := (Box.new w [.int .u8 x0, .int .u8 x1, .int .u8 x2, .int .u8 x3, .int .u8 x4, .int .u8 x5, .int .u8 x6, .int .u8 x7, .int .u8 x8, .bool x9, .int .u8 x10, .int .u8 x11, .int .u8 x12, .int .u8 x13, .int .u8 x14, .int .u8 x15, .int .u8 x16] 69 w.heap.size rfl).keep (((Gr.al (w.alloc (.cells #[.int .u8 x0, .int .u8 x1, .int .u8 x2, .int .u8 x3, .int .u8 x4, .int .u8 x5, .int .u8 x6, .int .u8 x7, .int .u8 x8, .bool x9, .int .u8 x10, .int .u8 x11, .int .u8 x12, .int .u8 x13, .int .u8 x14, .int .u8 x15, .int .u8 x16] 69)) (.cells #[.int .i64 30, .slice pa 4 pc, .int .i64 hei, .slice ta 2 tc, .slice ba 2 bc, .int .i64 9, .bool o] 24)).tr (Gr.al ((w.alloc (.cells #[.int .u8 x0, .int .u8 x1, .int .u8 x2, .int .u8 x3, .int .u8 x4, .int .u8 x5, .int .u8 x6, .int .u8 x7, .int .u8 x8, .bool x9, .int .u8 x10, .int .u8 x11, .int .u8 x12, .int .u8 x13, .int .u8 x14, .int .u8 x15, .int .u8 x16] 69)).alloc (.cells #[.int .i64 30, .slice pa 4 pc, .int .i64 hei, .slice ta 2 tc, .slice ba 2 bc, .int .i64 9, .bool o] 24)) (.cells #[.int .i64 cl, .int .i64 ch] 37))).tr (Gr.al (((w.alloc (.cells #[.int .u8 x0, .int .u8 x1, .int .u8 x2, .int .u8 x3, .int .u8 x4, .int .u8 x5, .int .u8 x6, .int .u8 x7, .int .u8 x8, .bool x9, .int .u8 x10, .int .u8 x11, .int .u8 x12, .int .u8 x13, .int .u8 x14, .int .u8 x15, .int .u8 x16] 69)).alloc (.cells #[.int .i64 30, .slice pa 4 pc, .int .i64 hei, .slice ta 2 tc, .slice ba 2 bc, .int .i64 9, .bool o] 24)).alloc (.cells #[.int .i64 cl, .int .i64 ch] 37)) (.cells #[.int .i64 0, .int .i64 0, .int .i64 0, .int .i64 0, .int .i64 0, .int .i64 0, .int .i64 0, .int .i64 0, .int .i64 0, .int .i64 0, .bool false] 48)))
 have h1 := (Box.new (w.alloc (.cells #[.int .u8 x0, .int .u8 x1, .int .u8 x2, .int .u8 x3, .int .u8 x4, .int .u8 x5, .int .u8 x6, .int .u8 x7, .int .u8 x8, .bool x9, .int .u8 x10, .int .u8 x11, .int .u8 x12, .int .u8 x13, .int .u8 x14, .int .u8 x15, .int .u8 x16] 69)) [.int .i64 30, .slice pa 4 pc, .int .i64 hei, .slice ta 2 tc, .slice ba 2 bc, .int .i64 9, .bool o] 24 (w.heap.size + 1) (by simp)).keep ((Gr.al ((w.alloc (.cells #[.int .u8 x0, .int .u8 x1, .int .u8 x2, .int .u8 x3, .int .u8 x4, .int .u8 x5, .int .u8 x6, .int .u8 x7, .int .u8 x8, .bool x9, .int .u8 x10, .int .u8 x11, .int .u8 x12, .int .u8 x13, .int .u8 x14, .int .u8 x15, .int .u8 x16] 69)).alloc (.cells #[.int .i64 30, .slice pa 4 pc, .int .i64 hei, .slice ta 2 tc, .slice ba 2 bc, .int .i64 9, .bool o] 24)) (.cells #[.int .i64 cl, .int .i64 ch] 37)).tr (Gr.al (((w.alloc (.cells #[.int .u8 x0, .int .u8 x1, .int .u8 x2, .int .u8 x3, .int .u8 x4, .int .u8 x5, .int .u8 x6, .int .u8 x7, .int .u8 x8, .bool x9, .int .u8 x10, .int .u8 x11, .int .u8 x12, .int .u8 x13, .int .u8 x14, .int .u8 x15, .int .u8 x16] 69)).alloc (.cells #[.int .i64 30, .slice pa 4 pc, .int .i64 hei, .slice ta 2 tc, .slice ba 2 bc, .int .i64 9, .bool o] 24)).alloc (.cells #[.int .i64 cl, .int .i64 ch] 37)) (.cells #[.int .i64 0, .int .i64 0, .int .i64 0, .int .i64 0, .int .i64 0, .int .i64 0, .int .i64 0, .int .i64 0, .int .i64 0, .int .i64 0, .bool false] 48)))
 have h2 := (Box.new ((w.alloc (.cells #[.int .u8 x0, .int .u8 x1, .int .u8 x2, .int .u8 x3, .int .u8 x4, .int .u8 x5, .int .u8 x6, .int .u8 x7, .int .u8 x8, .bool x9, .int .u8 x10, .int .u8 x11, .int .u8 x12, .int .u8 x13, .int .u8 x14, .int .u8 x15, .int .u8 x16] 69)).alloc (.cells #[.int .i64 30, .slice pa 4 pc, .int .i64 hei, .slice ta 2 tc, .slice ba 2 bc, .int .i64 9, .bool o] 24)) [.int .i64 cl, .int .i64 ch] 37 (w.heap.size + 1 + 1) (by simp)).keep (Gr.al (((w.alloc (.cells #[.int .u8 x0, .int .u8 x1, .int .u8 x2, .int .u8 x3, .int .u8 x4, .int .u8 x5, .int .u8 x6, .int .u8 x7, .int .u8 x8, .bool x9, .int .u8 x10, .int .u8 x11, .int .u8 x12, .int .u8 x13, .int .u8 x14, .int .u8 x15, .int .u8 x16] 69)).alloc (.cells #[.int .i64 30, .slice pa 4 pc, .int .i64 hei, .slice ta 2 tc, .slice ba 2 bc, .int .i64 9, .bool o] 24)).alloc (.cells #[.int .i64 cl, .int .i64 ch] 37)) (.cells #[.int .i64 0, .int .i64 0, .int .i64 0, .int .i64 0, .int .i64 0, .int .i64 0, .int .i64 0, .int .i64 0, .int .i64 0, .int .i64 0, .bool false] 48))
 have h3 := Own.new (((w.alloc (.cells #[.int .u8 x0, .int .u8 x1, .int .u8 x2, .int .u8 x3, .int .u8 x4, .int .u8 x5, .int .u8 x6, .int .u8 x7, .int .u8 x8, .bool x9, .int .u8 x10, .int .u8 x11, .int .u8 x12, .int .u8 x13, .int .u8 x14, .int .u8 x15, .int .u8 x16] 69)).alloc (.cells #[.int .i64 30, .slice pa 4 pc, .int .i64 hei, .slice ta 2 tc, .slice ba 2 bc, .int .i64 9, .bool o] 24)).alloc (.cells #[.int .i64 cl, .int .i64 ch] 37)) [.int .i64 0, .int .i64 0, .int .i64 0, .int .i64 0, .int .i64 0, .int .i64 0, .int .i64 0, .int .i64 0, .int .i64 0, .int .i64 0, .bool false] 48 (w.heap.size + 1 + 1 + 1) (by simp)
 go_enter Try.func41, Try.ntmps41
 go_upto_region 1 with fail
 refine wp_abs (fun U => Gr w U ∧ Box U w.heap.size [.int .u8 x0, .int .u8 x1, .int .u8 x2, .int .u8 x3, .int .u8 x4, .int .u8 x5, .int .u8 x6, .int .u8 x7, .int .u8 x8, .bool x9, .int .u8 x10, .int .u8 x11, .int .u8 x12, .int .u8 x13, .int .u8 x14, .int .u8 x15, .int .u8 x16] ∧ Box U (w.heap.size + 1) [.int .i64 30, .slice pa 4 pc, .int .i64 hei, .slice ta 2 tc, .slice ba 2 bc, .int .i64 9, .bool o] ∧ Box U (w.heap.size + 1 + 1) [.int .i64 cl, .int .i64 ch] ∧ Own U (w.heap.size + 1 + 1 + 1) [.int .i64 0, .int .i64 0, .int .i64 0, .int .i64 0, .int .i64 0, .int .i64 0, .int .i64 0, .int .i64 0, .int .i64 0, .int .i64 0, .bool false]) ⟨gg, h0, h1, h2, h3⟩ ?_
 clear gg h0 h1 h2 h3
 rintro U ⟨gU, h0, h1, h2, h3⟩
 have hIA : inB 0 100000 [p0, p1, p2, p3, t0, t1, s0, s1, hei, ch] = true ∧ inB 0 100000 [p0, p1, p2, p3, t0, t1, s0, s1, hei, cl] = true := by
  obtain ⟨h0, h1, h2, h3, h4, h5, h6, h7, h8, h9⟩ := hB.out
  obtain ⟨c0, c1, c2⟩ := hC.out
  simp only [inB, in1, List.all_cons, List.all_nil, Bool.and_true, Bool.and_eq_true, decide_eq_true_eq]
  omega
 have MA := Lib.hid (fun v hg => micros_any 30 hei 9 p0 p1 p2 p3 t0 t1 s0 s1 pa ta ba pc tc bc o ch hIA.1 v (hp.grow hg) (ht.grow hg) (hb.grow hg))
 have MC := Lib.hid (fun v hg => micros_any 30 hei 9 p0 p1 p2 p3 t0 t1 s0 s1 pa ta ba pc tc bc o cl hIA.2 v (hp.grow hg) (ht.grow hg) (hb.grow hg))
 clear hIA
 refine wp_region_apart 10 [(2, 1), (3, 0), (3, 2), (6, 5), (7, 4), (7, 6)] [8, 9] (fun x => ⟨#[.agg #[.int .u8 x0, .int .u8 x1, .int .u8 x2, .int .u8 x3, .int .u8 x4, .int .u8 x5, .int .u8 x6, .int .u8 x7, .int .u8 x8, .bool x9, .int .u8 x10, .int .u8 x11, .int .u8 x12, .int .u8 x13, .int .u8 x14, .int .u8 x15, .int .u8 x16], .agg #[.int .i64 30, .slice pa 4 pc, .int .i64 hei, .slice ta 2 tc, .slice ba 2 bc, .int .i64 9, .bool o], .agg #[.int .i64 cl, .int .i64 ch], .pointer (some ⟨w.heap.size, 0, none⟩), .pointer (some ⟨(w.heap.size + 1), 0, none⟩), .pointer (some ⟨(w.heap.size + 1 + 1), 0, none⟩), .pointer (some ⟨(w.heap.size + 1 + 1 + 1), 0, none⟩), x 8, x 9, undef, x 0, x 1, x 2, x 3, x 4, x 5, x 6, x 7, undef, undef, undef, undef, undef, undef, undef, undef, undef, undef, undef, undef, undef, undef, undef, undef, undef, undef, undef, undef, undef, undef, undef, undef, undef, undef, undef, undef, undef, undef, undef, undef, undef, undef, undef, undef, undef, undef, undef, undef, undef, undef, undef, undef, undef, undef, undef, undef, undef, undef, undef, undef, undef, undef, undef, undef, undef, undef, undef, undef, undef, undef, undef, undef], []⟩) (fun _ => undef) [fun _ x => x = .agg #[.int .i64 30, .slice pa 4 pc, .int .i64 hei, .slice ta 2 tc, .slice ba 2 bc, .int .i64 9, .bool o], fun _ x => x = .pointer (some ⟨(w.heap.size + 1 + 1), 1, none⟩), fun _ x => x = .int .i64 ch, fun _ x => x = .agg #[.int .i64 (1000 * p0 - ch), .int .i64 (1000 * p1 - ch), .int .i64 (1000 * p2 - ch), .int .i64 (1000 * p3 - ch), .int .i64 (micH hei o ch), .int .i64 (1000 * p1 - ch - 2000 * t0), .int .i64 (1000 * p0 - ch - 2000 * t1), .int .i64 (1000 * p1 - ch - 2000 * s0), .int .i64 (1000 * p0 - ch - 2000 * s1)], fun _ x => x = .agg #[.int .i64 30, .slice pa 4 pc, .int .i64 hei, .slice ta 2 tc, .slice ba 2 bc, .int .i64 9, .bool o], fun _ x => x = .pointer (some ⟨(w.heap.size + 1 + 1), 0, none⟩), fun _ x => x = .int .i64 cl, fun _ x => x = .agg #[.int .i64 (1000 * p0 - cl), .int .i64 (1000 * p1 - cl), .int .i64 (1000 * p2 - cl), .int .i64 (1000 * p3 - cl), .int .i64 (micH hei o cl), .int .i64 (1000 * p1 - cl - 2000 * t0), .int .i64 (1000 * p0 - cl - 2000 * t1), .int .i64 (1000 * p1 - cl - 2000 * s0), .int .i64 (1000 * p0 - cl - 2000 * s1)], fun v x => ∃ b, x = .pointer (some ⟨b, 0, none⟩) ∧ U.heap.size ≤ b ∧ Own v b [.int .i64 0, .int .i64 0, .int .i64 0, .int .i64 0, .int .i64 0, .int .i64 0, .int .i64 0, .int .i64 0, .int .i64 0], fun v x => ∃ b, x = .pointer (some ⟨b, 0, none⟩) ∧ U.heap.size ≤ b ∧ Own v b [.int .i64 0, .int .i64 0, .int .i64 0, .int .i64 0, .int .i64 0, .int .i64 0, .int .i64 0, .int .i64 0, .int .i64 0]] (by rfl) (by kernel_rfl) (by kernel_rfl) (by kernel_rfl) (stays_cons (Stays.eq _) (stays_cons (Stays.eq _) (stays_cons (Stays.eq _) (stays_cons (Stays.eq _) (stays_cons (Stays.eq _) (stays_cons (Stays.eq _) (stays_cons (Stays.eq _) (stays_cons (Stays.eq _) (stays_cons ((show Stays (fun v x => ∃ b, x = .pointer (some ⟨b, 0, none⟩) ∧ U.heap.size ≤ b ∧ Own v b [.int .i64 0, .int .i64 0, .int .i64 0, .int .i64 0, .int .i64 0, .int .i64 0, .int .i64 0, .int .i64 0, .int .i64 0]) from fun v v' x g ⟨b, h, l, o⟩ => ⟨b, h, l, o.keep g⟩)) (stays_cons ((show Stays (fun v x => ∃ b, x = .pointer (some ⟨b, 0, none⟩) ∧ U.heap.size ≤ b ∧ Own v b [.int .i64 0, .int .i64 0, .int .i64 0, .int .i64 0, .int .i64 0, .int .i64 0, .int .i64 0, .int .i64 0, .int .i64 0]) from fun v v' x g ⟨b, h, l, o⟩ => ⟨b, h, l, o.keep g⟩)) stays_nil)))))))))) ?step1 ?fin1
 case step1 =>
  rintro i hi x v gv hd K hK
  have hi8 : i = 0 ∨ i = 1 ∨ i = 2 ∨ i = 3 ∨ i = 4 ∨ i = 5 ∨ i = 6 ∨ i = 7 ∨ i = 8 ∨ i = 9 := by omega
  rcases hi8 with rfl | rfl | rfl | rfl | rfl | rfl | rfl | rfl | rfl | rfl
  ·try dsimp only [upd, Nat.reduceBEq, cond_true, cond_false]
   refine wpOp_step rfl (fun K' hK' => ?_)
   rw [if_pos (by rfl)]
   refine wp_load_mid 24 _ rfl (w.heap.size + 1) 0 (by rfl) [.int .i64 30, .slice pa 4 pc, .int .i64 hei, .slice ta 2 tc, .slice ba 2 bc, .int .i64 9, .bool o] _ (fun j u hu => by rw [Nat.zero_add]; exact (h1.keep gv).2 j u hu) Try.underlying24 rfl (by kernel_rfl) ?_
   exact hK' _ _ (hK _ _ (Below.refl _ _) (at_of rfl (rfl)) (fun h => absurd h (by simp)))
  ·try dsimp only [upd, Nat.reduceBEq, cond_true, cond_false]
   refine wpOp_step rfl (fun K' hK' => ?_)
   go_simp
   exact hK' _ _ (hK _ _ (Below.refl _ _) (at_of rfl (rfl)) (fun h => absurd h (by simp)))
  ·obtain ⟨x, rfl⟩ := upd_of (show x 1 = .pointer (some ⟨(w.heap.size + 1 + 1), 1, none⟩) from hd 1 _ (by simp) rfl)
   try dsimp only [upd, Nat.reduceBEq, cond_true, cond_false]
   refine wpOp_step rfl (fun K' hK' => ?_)
   have q := (h2.keep gv).2 1 _ rfl
   go_simp
   exact hK' _ _ (hK _ _ (Below.refl _ _) (at_of rfl (rfl)) (fun h => absurd h (by simp)))
  ·obtain ⟨x, rfl⟩ := upd_of (show x 0 = .agg #[.int .i64 30, .slice pa 4 pc, .int .i64 hei, .slice ta 2 tc, .slice ba 2 bc, .int .i64 9, .bool o] from hd 0 _ (by simp) rfl)
   obtain ⟨x, rfl⟩ := upd_of (show x 2 = .int .i64 ch from hd 2 _ (by simp) rfl)
   try dsimp only [upd, Nat.reduceBEq, cond_true, cond_false]
   refine wpOp_step rfl (fun K' hK' => ?_)
   go_simp
   refine (MA.out v (gU.tr gv)).mono ?_
   rintro e v' ⟨rfl, hg⟩
   exact hK' _ _ (hK _ _ hg (at_of rfl (rfl)) (fun h => absurd h (by simp)))
  ·try dsimp only [upd, Nat.reduceBEq, cond_true, cond_false]
   refine wpOp_step rfl (fun K' hK' => ?_)
   rw [if_pos (by rfl)]
   refine wp_load_mid 24 _ rfl (w.heap.size + 1) 0 (by rfl) [.int .i64 30, .slice pa 4 pc, .int .i64 hei, .slice ta 2 tc, .slice ba 2 bc, .int .i64 9, .bool o] _ (fun j u hu => by rw [Nat.zero_add]; exact (h1.keep gv).2 j u hu) Try.underlying24 rfl (by kernel_rfl) ?_
   exact hK' _ _ (hK _ _ (Below.refl _ _) (at_of rfl (rfl)) (fun h => absurd h (by simp)))
  ·try dsimp only [upd, Nat.reduceBEq, cond_true, cond_false]
   refine wpOp_step rfl (fun K' hK' => ?_)
   go_simp
   exact hK' _ _ (hK _ _ (Below.refl _ _) (at_of rfl (rfl)) (fun h => absurd h (by simp)))
  ·obtain ⟨x, rfl⟩ := upd_of (show x 5 = .pointer (some ⟨(w.heap.size + 1 + 1), 0, none⟩) from hd 5 _ (by simp) rfl)
   try dsimp only [upd, Nat.reduceBEq, cond_true, cond_false]
   refine wpOp_step rfl (fun K' hK' => ?_)
   have q := (h2.keep gv).2 0 _ rfl
   go_simp
   exact hK' _ _ (hK _ _ (Below.refl _ _) (at_of rfl (rfl)) (fun h => absurd h (by simp)))
  ·obtain ⟨x, rfl⟩ := upd_of (show x 4 = .agg #[.int .i64 30, .slice pa 4 pc, .int .i64 hei, .slice ta 2 tc, .slice ba 2 bc, .int .i64 9, .bool o] from hd 4 _ (by simp) rfl)
   obtain ⟨x, rfl⟩ := upd_of (show x 6 = .int .i64 cl from hd 6 _ (by simp) rfl)
   try dsimp only [upd, Nat.reduceBEq, cond_true, cond_false]
   refine wpOp_step rfl (fun K' hK' => ?_)
   go_simp
   refine (MC.out v (gU.tr gv)).mono ?_
   rintro e v' ⟨rfl, hg⟩
   exact hK' _ _ (hK _ _ hg (at_of rfl (rfl)) (fun h => absurd h (by simp)))
  ·try dsimp only [upd, Nat.reduceBEq, cond_true, cond_false]
   refine wpOp_step rfl (fun K' hK' => ?_)
   go_simp
   have hg := Gr.al v (.cells #[.int .i64 0, .int .i64 0, .int .i64 0, .int .i64 0, .int .i64 0, .int .i64 0, .int .i64 0, .int .i64 0, .int .i64 0] 78)
   exact hK' _ _ (hK _ _ hg (at_of rfl (⟨_, rfl, gv.size, Own.new v [.int .i64 0, .int .i64 0, .int .i64 0, .int .i64 0, .int .i64 0, .int .i64 0, .int .i64 0, .int .i64 0, .int .i64 0] 78 v.heap.size rfl⟩)) (fun _ b hb => by simp [hasB, blkOf] at hb; subst hb; simp))
  ·try dsimp only [upd, Nat.reduceBEq, cond_true, cond_false]
   refine wpOp_step rfl (fun K' hK' => ?_)
   go_simp
   have hg := Gr.al v (.cells #[.int .i64 0, .int .i64 0, .int .i64 0, .int .i64 0, .int .i64 0, .int .i64 0, .int .i64 0, .int .i64 0, .int .i64 0] 78)
   exact hK' _ _ (hK _ _ hg (at_of rfl (⟨_, rfl, gv.size, Own.new v [.int .i64 0, .int .i64 0, .int .i64 0, .int .i64 0, .int .i64 0, .int .i64 0, .int .i64 0, .int .i64 0, .int .i64 0] 78 v.heap.size rfl⟩)) (fun _ b hb => by simp [hasB, blkOf] at hb; subst hb; simp))
 case fin1 =>
  rintro x v gv hd hap
  obtain ⟨x, rfl⟩ := upd_of (show x 3 = .agg #[.int .i64 (1000 * p0 - ch), .int .i64 (1000 * p1 - ch), .int .i64 (1000 * p2 - ch), .int .i64 (1000 * p3 - ch), .int .i64 (micH hei o ch), .int .i64 (1000 * p1 - ch - 2000 * t0), .int .i64 (1000 * p0 - ch - 2000 * t1), .int .i64 (1000 * p1 - ch - 2000 * s0), .int .i64 (1000 * p0 - ch - 2000 * s1)] from hd 3 _ (by omega) rfl)
  obtain ⟨x, rfl⟩ := upd_of (show x 7 = .agg #[.int .i64 (1000 * p0 - cl), .int .i64 (1000 * p1 - cl), .int .i64 (1000 * p2 - cl), .int .i64 (1000 * p3 - cl), .int .i64 (micH hei o cl), .int .i64 (1000 * p1 - cl - 2000 * t0), .int .i64 (1000 * p0 - cl - 2000 * t1), .int .i64 (1000 * p1 - cl - 2000 * s0), .int .i64 (1000 * p0 - cl - 2000 * s1)] from hd 7 _ (by omega) rfl)
  obtain ⟨v8, e8, l8, o8⟩ := hd 8 _ (by omega) rfl
  obtain ⟨x, rfl⟩ := upd_of (show x 8 = .pointer (some ⟨v8, 0, none⟩) from e8)
  obtain ⟨v9, e9, l9, o9⟩ := hd 9 _ (by omega) rfl
  obtain ⟨x, rfl⟩ := upd_of (show x 9 = .pointer (some ⟨v9, 0, none⟩) from e9)
  clear hd
  show wpList Try.prog _ _ (List.drop 10 _) (⟨#[_, _, _, _, _, _, _, .pointer (some ⟨v8, 0, none⟩), .pointer (some ⟨v9, 0, none⟩), _, x 0, x 1, x 2, .agg #[.int .i64 (1000 * p0 - ch), .int .i64 (1000 * p1 - ch), .int .i64 (1000 * p2 - ch), .int .i64 (1000 * p3 - ch), .int .i64 (micH hei o ch), .int .i64 (1000 * p1 - ch - 2000 * t0), .int .i64 (1000 * p0 - ch - 2000 * t1), .int .i64 (1000 * p1 - ch - 2000 * s0), .int .i64 (1000 * p0 - ch - 2000 * s1)], x 4, x 5, x 6, .agg #[.int .i64 (1000 * p0 - cl), .int .i64 (1000 * p1 - cl), .int .i64 (1000 * p2 - cl), .int .i64 (1000 * p3 - cl), .int .i64 (micH hei o cl), .int .i64 (1000 * p1 - cl - 2000 * t0), .int .i64 (1000 * p0 - cl - 2000 * t1), .int .i64 (1000 * p1 - cl - 2000 * s0), .int .i64 (1000 * p0 - cl - 2000 * s1)], _, _, _, _, _, _, _, _, _, _, _, _, _, _, _, _, _, _, _, _, _, _, _, _, _, _, _, _, _, _, _, _, _, _, _, _, _, _, _, _, _, _, _, _, _, _, _, _, _, _, _, _, _, _, _, _, _, _, _, _, _, _, _, _], []⟩ : Act) v
  simp only [List.drop_succ_cons, List.drop_zero]
  have dd : v8 ≠ v9 := fun e => hap 8 9 (by simp) (by simp) (by simp) (by omega) (by omega) v9 (by rw [e8, e]; simp [hasB, blkOf]) (by rw [e9]; simp [hasB, blkOf])
  have hU3 := h3.1.1
  replace h0 := h0.keep gv
  replace h1 := h1.keep gv
  replace h3 := h3.keep gv
  have l8' : w.heap.size ≤ v8 := Nat.le_trans gU.size l8
  have l9' : w.heap.size ≤ v9 := Nat.le_trans gU.size l9
  replace gU := gU.tr gv
  have n80 : w.heap.size ≠ v8 := by omega
  have n90 : w.heap.size ≠ v9 := by omega
  have n81 : w.heap.size + 1 ≠ v8 := by omega
  have n91 : w.heap.size + 1 ≠ v9 := by omega
  have n83 : w.heap.size + 1 + 1 + 1 ≠ v8 := by omega
  have n93 : w.heap.size + 1 + 1 + 1 ≠ v9 := by omega
  clear hap e8 e9 gv MA MC h2
  have s8_0 := o8.1.2 0 _ rfl
  have z8_0 := o8.2 0
  have s8_1 := o8.1.2 1 _ rfl
  have z8_1 := o8.2 1
  have s8_2 := o8.1.2 2 _ rfl
  have z8_2 := o8.2 2
  have s8_3 := o8.1.2 3 _ rfl
  have z8_3 := o8.2 3
  have s8_4 := o8.1.2 4 _ rfl
  have z8_4 := o8.2 4
  have s8_5 := o8.1.2 5 _ rfl
  have z8_5 := o8.2 5
  have s8_6 := o8.1.2 6 _ rfl
  have z8_6 := o8.2 6
  have s8_7 := o8.1.2 7 _ rfl
  have z8_7 := o8.2 7
  have s8_8 := o8.1.2 8 _ rfl
  have z8_8 := o8.2 8
  have s9_0 := o9.1.2 0 _ rfl
  have z9_0 := o9.2 0
  have s9_1 := o9.1.2 1 _ rfl
  have z9_1 := o9.2 1
  have s9_2 := o9.1.2 2 _ rfl
  have z9_2 := o9.2 2
  have s9_3 := o9.1.2 3 _ rfl
  have z9_3 := o9.2 3
  have s9_4 := o9.1.2 4 _ rfl
  have z9_4 := o9.2 4
  have s9_5 := o9.1.2 5 _ rfl
  have z9_5 := o9.2 5
  have s9_6 := o9.1.2 6 _ rfl
  have z9_6 := o9.2 6
  have s9_7 := o9.1.2 7 _ rfl
  have z9_7 := o9.2 7
  have s9_8 := o9.1.2 8 _ rfl
  have z9_8 := o9.2 8
  go_upto_region 2 with fail
  clear s8_0 z8_0 s8_1 z8_1 s8_2 z8_2 s8_3 z8_3 s8_4 z8_4 s8_5 z8_5 s8_6 z8_6 s8_7 z8_7 s8_8 z8_8 s9_0 z9_0 s9_1 z9_1 s9_2 z9_2 s9_3 z9_3 s9_4 z9_4 s9_5 z9_5 s9_6 z9_6 s9_7 z9_7 s9_8 z9_8
  refine wp_abs (fun Z => Gr w Z ∧ Box Z w.heap.size [.int .u8 x0, .int .u8 x1, .int .u8 x2, .int .u8 x3, .int .u8 x4, .int .u8 x5, .int .u8 x6, .int .u8 x7, .int .u8 x8, .bool x9, .int .u8 x10, .int .u8 x11, .int .u8 x12, .int .u8 x13, .int .u8 x14, .int .u8 x15, .int .u8 x16] ∧ Box Z (w.heap.size + 1) [.int .i64 30, .slice pa 4 pc, .int .i64 hei, .slice ta 2 tc, .slice ba 2 bc, .int .i64 9, .bool o] ∧ Own Z (w.heap.size + 1 + 1 + 1) [.int .i64 0, .int .i64 0, .int .i64 0, .int .i64 0, .int .i64 0, .int .i64 0, .int .i64 0, .int .i64 0, .int .i64 0, .int .i64 0, .bool false] ∧ Own Z v8 [.int .i64 (1000 * p0 - ch), .int .i64 (1000 * p1 - ch), .int .i64 (1000 * p2 - ch), .int .i64 (1000 * p3 - ch), .int .i64 (micH hei o ch), .int .i64 (1000 * p1 - ch - 2000 * t0), .int .i64 (1000 * p0 - ch - 2000 * t1), .int .i64 (1000 * p1 - ch - 2000 * s0), .int .i64 (1000 * p0 - ch - 2000 * s1)] ∧ Own Z v9 [.int .i64 (1000 * p0 - cl), .int .i64 (1000 * p1 - cl), .int .i64 (1000 * p2 - cl), .int .i64 (1000 * p3 - cl), .int .i64 (micH hei o cl), .int .i64 (1000 * p1 - cl - 2000 * t0), .int .i64 (1000 * p0 - cl - 2000 * t1), .int .i64 (1000 * p1 - cl - 2000 * s0), .int .i64 (1000 * p0 - cl - 2000 * s1)]) ⟨((((((((((((((((((gU.setCell (p := ⟨v8, 0, none⟩) l8' _).setCell (p := ⟨v8, 1, none⟩) l8' _).setCell (p := ⟨v8, 2, none⟩) l8' _).setCell (p := ⟨v8, 3, none⟩) l8' _).setCell (p := ⟨v8, 4, none⟩) l8' _).setCell (p := ⟨v8, 5, none⟩) l8' _).setCell (p := ⟨v8, 6, none⟩) l8' _).setCell (p := ⟨v8, 7, none⟩) l8' _).setCell (p := ⟨v8, 8, none⟩) l8' _).setCell (p := ⟨v9, 0, none⟩) l9' _).setCell (p := ⟨v9, 1, none⟩) l9' _).setCell (p := ⟨v9, 2, none⟩) l9' _).setCell (p := ⟨v9, 3, none⟩) l9' _).setCell (p := ⟨v9, 4, none⟩) l9' _).setCell (p := ⟨v9, 5, none⟩) l9' _).setCell (p := ⟨v9, 6, none⟩) l9' _).setCell (p := ⟨v9, 7, none⟩) l9' _).setCell (p := ⟨v9, 8, none⟩) l9' _), (Box.other (Box.other (Box.other (Box.other (Box.other (Box.other (Box.other (Box.other (Box.other (Box.other (Box.other (Box.other (Box.other (Box.other (Box.other (Box.other (Box.other (Box.other h0 n80) n80) n80) n80) n80) n80) n80) n80) n80) n90) n90) n90) n90) n90) n90) n90) n90) n90), (Box.other (Box.other (Box.other (Box.other (Box.other (Box.other (Box.other (Box.other (Box.other (Box.other (Box.other (Box.other (Box.other (Box.other (Box.other (Box.other (Box.other (Box.other h1 n81) n81) n81) n81) n81) n81) n81) n81) n81) n91) n91) n91) n91) n91) n91) n91) n91) n91), ((((((((((((((((((h3.other n83).other n83).other n83).other n83).other n83).other n83).other n83).other n83).other n83).other n93).other n93).other n93).other n93).other n93).other n93).other n93).other n93).other n93), ((((((((((((((((((o8.set (i := 0) (by simp)).set (i := 1) (by simp)).set (i := 2) (by simp)).set (i := 3) (by simp)).set (i := 4) (by simp)).set (i := 5) (by simp)).set (i := 6) (by simp)).set (i := 7) (by simp)).set (i := 8) (by simp)).other dd).other dd).other dd).other dd).other dd).other dd).other dd).other dd).other dd), ((((((((((((((((((o9.other (Ne.symm dd)).other (Ne.symm dd)).other (Ne.symm dd)).other (Ne.symm dd)).other (Ne.symm dd)).other (Ne.symm dd)).other (Ne.symm dd)).other (Ne.symm dd)).other (Ne.symm dd)).set (i := 0) (by simp)).set (i := 1) (by simp)).set (i := 2) (by simp)).set (i := 3) (by simp)).set (i := 4) (by simp)).set (i := 5) (by simp)).set (i := 6) (by simp)).set (i := 7) (by simp)).set (i := 8) (by simp))⟩ ?_
  clear gU h0 h1 h3 o8 o9
  rintro Z ⟨gZ, h0, h1, h3, o8, o9⟩
  have q6 := h1.2 6 _ rfl
  obtain ⟨D, hD⟩ : ∃ D, D = Z.heap.size := ⟨_, rfl⟩
  have hD3 : w.heap.size ≤ D := by rw [hD]; exact gZ.size
  have nD0 : w.heap.size ≠ D := by have := h0.1; omega
  have nD3 : w.heap.size + 1 + 1 + 1 ≠ D := by have := h3.1.1; omega
  have nD8 : v8 ≠ D := by have := o8.1.1; omega
  have nD9 : v9 ≠ D := by have := o9.1.1; omega
  go_upto_region 3 with fail
  rw [← hD]
  refine wp_abs (fun Y => Gr w Y ∧ Box Y w.heap.size [.int .u8 x0, .int .u8 x1, .int .u8 x2, .int .u8 x3, .int .u8 x4, .int .u8 x5, .int .u8 x6, .int .u8 x7, .int .u8 x8, .bool x9, .int .u8 x10, .int .u8 x11, .int .u8 x12, .int .u8 x13, .int .u8 x14, .int .u8 x15, .int .u8 x16] ∧ Own Y (w.heap.size + 1 + 1 + 1) [.int .i64 0, .int .i64 0, .int .i64 0, .int .i64 0, .int .i64 0, .int .i64 0, .int .i64 0, .int .i64 0, .int .i64 0, .int .i64 0, .bool false] ∧ Own Y v8 [.int .i64 (1000 * p0 - ch), .int .i64 (1000 * p1 - ch), .int .i64 (1000 * p2 - ch), .int .i64 (1000 * p3 - ch), .int .i64 (micH hei o ch), .int .i64 (1000 * p1 - ch - 2000 * t0), .int .i64 (1000 * p0 - ch - 2000 * t1), .int .i64 (1000 * p1 - ch - 2000 * s0), .int .i64 (1000 * p0 - ch - 2000 * s1)] ∧ Own Y v9 [.int .i64 (1000 * p0 - cl), .int .i64 (1000 * p1 - cl), .int .i64 (1000 * p2 - cl), .int .i64 (1000 * p3 - cl), .int .i64 (micH hei o cl), .int .i64 (1000 * p1 - cl - 2000 * t0), .int .i64 (1000 * p0 - cl - 2000 * t1), .int .i64 (1000 * p1 - cl - 2000 * s0), .int .i64 (1000 * p0 - cl - 2000 * s1)] ∧ Own Y D [.int .i64 0, .int .i64 0, .int .i64 0, .int .i64 0, .int .i64 0, .int .i64 0, .int .i64 0, .int .i64 0, .int .i64 0, .int .i64 0, .bool o]) ⟨gZ.tr (Gr.al _ _), h0.keep (Gr.al _ _), h3.keep (Gr.al _ _), o8.keep (Gr.al _ _), o9.keep (Gr.al _ _), Own.new Z [.int .i64 0, .int .i64 0, .int .i64 0, .int .i64 0, .int .i64 0, .int .i64 0, .int .i64 0, .int .i64 0, .int .i64 0, .int .i64 0, .bool o] 48 D hD⟩ ?_
  clear gZ h0 h1 h3 o8 o9 q6 hD
  rintro Y0 ⟨gY, h0, h3, o8, o9, oD⟩
  have bB := hB.out
  have bC := hC.out
  unfold Sheet4 at bB
  unfold Cal4 at bC
  have bM : ∀ c, 0 ≤ c → c ≤ 7110 → -1000000000 ≤ micH hei o c ∧ micH hei o c ≤ 1000000000 := by
   intro c h0 h1
   unfold micH
   split <;> omega
  have mA := bM ch (by omega) (by omega)
  have mC := bM cl (by omega) (by omega)
  clear bM
  have AR := Lib.hid (fun v => around_any (1000 * p0 - ch) (1000 * p0 - cl) (x12 % 4) (by omega) (by omega) (by omega) (by omega) (by have := hw0.1; omega) (by have := hw0.2; omega) v)
  have LI := Lib.hid (fun v => limited_any ((1000 * p0 - ch) / 1000 - x12 % 4) (((1000 * p0 - cl) + 999) / 1000 + x12 % 4) 0 3000 v)
  have qa := o8.1.2 0 _ rfl
  have qc := o9.1.2 0 _ rfl
  have qx := h0.2 12 _ rfl
  have wx : IntKind.i64.wrap x12 = x12 := IntWalk.i64_in _ (by have := hw0.1; have := hw0.2; omega)
  have wm : x12.tmod 4 = x12 % 4 := Int.tmod_eq_emod_of_nonneg hw0.1
  go_upto_region 4 with (first
   | (go_at_call 82; refine (AR.out _).mono ?_; rintro e w1 ⟨rfl, g1⟩; replace gY := gY.tr g1; replace oD := oD.keep g1; replace h0 := h0.keep g1; replace h3 := h3.keep g1; replace o8 := o8.keep g1; replace o9 := o9.keep g1; clear qa qc qx)
   | (go_at_call 81; refine (LI.out _).mono ?_; rintro e w2 ⟨rfl, g2⟩; replace gY := gY.tr g2; replace oD := oD.keep g2; replace h0 := h0.keep g2; replace h3 := h3.keep g2; replace o8 := o8.keep g2; replace o9 := o9.keep g2; have u0 := oD.1.2 0 _ rfl; have u1 := oD.1.2 1 _ rfl; have y0 := oD.2 0; have y1 := oD.2 1))
  refine wp_abs (fun Y => Gr w Y ∧ Box Y w.heap.size [.int .u8 x0, .int .u8 x1, .int .u8 x2, .int .u8 x3, .int .u8 x4, .int .u8 x5, .int .u8 x6, .int .u8 x7, .int .u8 x8, .bool x9, .int .u8 x10, .int .u8 x11, .int .u8 x12, .int .u8 x13, .int .u8 x14, .int .u8 x15, .int .u8 x16] ∧ Own Y (w.heap.size + 1 + 1 + 1) [.int .i64 0, .int .i64 0, .int .i64 0, .int .i64 0, .int .i64 0, .int .i64 0, .int .i64 0, .int .i64 0, .int .i64 0, .int .i64 0, .bool false] ∧ Own Y v8 [.int .i64 (1000 * p0 - ch), .int .i64 (1000 * p1 - ch), .int .i64 (1000 * p2 - ch), .int .i64 (1000 * p3 - ch), .int .i64 (micH hei o ch), .int .i64 (1000 * p1 - ch - 2000 * t0), .int .i64 (1000 * p0 - ch - 2000 * t1), .int .i64 (1000 * p1 - ch - 2000 * s0), .int .i64 (1000 * p0 - ch - 2000 * s1)] ∧ Own Y v9 [.int .i64 (1000 * p0 - cl), .int .i64 (1000 * p1 - cl), .int .i64 (1000 * p2 - cl), .int .i64 (1000 * p3 - cl), .int .i64 (micH hei o cl), .int .i64 (1000 * p1 - cl - 2000 * t0), .int .i64 (1000 * p0 - cl - 2000 * t1), .int .i64 (1000 * p1 - cl - 2000 * s0), .int .i64 (1000 * p0 - cl - 2000 * s1)] ∧ Own Y D [.int .i64 (arL (1000 * p0 - ch) (x12 % 4) 0 3000), .int .i64 (arH (1000 * p0 - cl) (x12 % 4) 0 3000), .int .i64 0, .int .i64 0, .int .i64 0, .int .i64 0, .int .i64 0, .int .i64 0, .int .i64 0, .int .i64 0, .bool o]) ⟨(gY.setCell (p := ⟨D, 0, none⟩) hD3 _).setCell (p := ⟨D, 1, none⟩) hD3 _, Box.other (Box.other h0 nD0) nD0, (h3.other nD3).other nD3, (o8.other nD8).other nD8, (o9.other nD9).other nD9, (oD.set (i := 0) (by simp)).set (i := 1) (by simp)⟩ ?_
  clear gY h0 h3 o8 o9 oD AR LI wx wm u0 u1 y0 y1
  rintro Y1 ⟨gY, h0, h3, o8, o9, oD⟩
  have AR := Lib.hid (fun v => around_any (1000 * p1 - ch) (1000 * p1 - cl) (x13 % 4) (by omega) (by omega) (by omega) (by omega) (by have := hw1.1; omega) (by have := hw1.2; omega) v)
  have LI := Lib.hid (fun v => limited_any ((1000 * p1 - ch) / 1000 - x13 % 4) (((1000 * p1 - cl) + 999) / 1000 + x13 % 4) 0 3000 v)
  have qa := o8.1.2 1 _ rfl
  have qc := o9.1.2 1 _ rfl
  have qx := h0.2 13 _ rfl
  have wx : IntKind.i64.wrap x13 = x13 := IntWalk.i64_in _ (by have := hw1.1; have := hw1.2; omega)
  have wm : x13.tmod 4 = x13 % 4 := Int.tmod_eq_emod_of_nonneg hw1.1
  go_upto_region 5 with (first
   | (go_at_call 82; refine (AR.out _).mono ?_; rintro e w1 ⟨rfl, g1⟩; replace gY := gY.tr g1; replace oD := oD.keep g1; replace h0 := h0.keep g1; replace h3 := h3.keep g1; replace o8 := o8.keep g1; replace o9 := o9.keep g1; clear qa qc qx)
   | (go_at_call 81; refine (LI.out _).mono ?_; rintro e w2 ⟨rfl, g2⟩; replace gY := gY.tr g2; replace oD := oD.keep g2; replace h0 := h0.keep g2; replace h3 := h3.keep g2; replace o8 := o8.keep g2; replace o9 := o9.keep g2; have u0 := oD.1.2 2 _ rfl; have u1 := oD.1.2 3 _ rfl; have y0 := oD.2 2; have y1 := oD.2 3))
  refine wp_abs (fun Y => Gr w Y ∧ Box Y w.heap.size [.int .u8 x0, .int .u8 x1, .int .u8 x2, .int .u8 x3, .int .u8 x4, .int .u8 x5, .int .u8 x6, .int .u8 x7, .int .u8 x8, .bool x9, .int .u8 x10, .int .u8 x11, .int .u8 x12, .int .u8 x13, .int .u8 x14, .int .u8 x15, .int .u8 x16] ∧ Own Y (w.heap.size + 1 + 1 + 1) [.int .i64 0, .int .i64 0, .int .i64 0, .int .i64 0, .int .i64 0, .int .i64 0, .int .i64 0, .int .i64 0, .int .i64 0, .int .i64 0, .bool false] ∧ Own Y v8 [.int .i64 (1000 * p0 - ch), .int .i64 (1000 * p1 - ch), .int .i64 (1000 * p2 - ch), .int .i64 (1000 * p3 - ch), .int .i64 (micH hei o ch), .int .i64 (1000 * p1 - ch - 2000 * t0), .int .i64 (1000 * p0 - ch - 2000 * t1), .int .i64 (1000 * p1 - ch - 2000 * s0), .int .i64 (1000 * p0 - ch - 2000 * s1)] ∧ Own Y v9 [.int .i64 (1000 * p0 - cl), .int .i64 (1000 * p1 - cl), .int .i64 (1000 * p2 - cl), .int .i64 (1000 * p3 - cl), .int .i64 (micH hei o cl), .int .i64 (1000 * p1 - cl - 2000 * t0), .int .i64 (1000 * p0 - cl - 2000 * t1), .int .i64 (1000 * p1 - cl - 2000 * s0), .int .i64 (1000 * p0 - cl - 2000 * s1)] ∧ Own Y D [.int .i64 (arL (1000 * p0 - ch) (x12 % 4) 0 3000), .int .i64 (arH (1000 * p0 - cl) (x12 % 4) 0 3000), .int .i64 (arL (1000 * p1 - ch) (x13 % 4) 0 3000), .int .i64 (arH (1000 * p1 - cl) (x13 % 4) 0 3000), .int .i64 0, .int .i64 0, .int .i64 0, .int .i64 0, .int .i64 0, .int .i64 0, .bool o]) ⟨(gY.setCell (p := ⟨D, 2, none⟩) hD3 _).setCell (p := ⟨D, 3, none⟩) hD3 _, Box.other (Box.other h0 nD0) nD0, (h3.other nD3).other nD3, (o8.other nD8).other nD8, (o9.other nD9).other nD9, (oD.set (i := 2) (by simp)).set (i := 3) (by simp)⟩ ?_
  clear gY h0 h3 o8 o9 oD AR LI wx wm u0 u1 y0 y1
  rintro Y2 ⟨gY, h0, h3, o8, o9, oD⟩
  have AR := Lib.hid (fun v => around_any (micH hei o ch) (micH hei o cl) (x14 % 4) (by omega) (by omega) (by omega) (by omega) (by have := hw2.1; omega) (by have := hw2.2; omega) v)
  have LI := Lib.hid (fun v => limited_any ((micH hei o ch) / 1000 - x14 % 4) (((micH hei o cl) + 999) / 1000 + x14 % 4) 0 3000 v)
  have qa := o8.1.2 4 _ rfl
  have qc := o9.1.2 4 _ rfl
  have qx := h0.2 14 _ rfl
  have wx : IntKind.i64.wrap x14 = x14 := IntWalk.i64_in _ (by have := hw2.1; have := hw2.2; omega)
  have wm : x14.tmod 4 = x14 % 4 := Int.tmod_eq_emod_of_nonneg hw2.1
  go_upto_region 6 with (first
   | (go_at_call 82; refine (AR.out _).mono ?_; rintro e w1 ⟨rfl, g1⟩; replace gY := gY.tr g1; replace oD := oD.keep g1; replace h0 := h0.keep g1; replace h3 := h3.keep g1; replace o8 := o8.keep g1; replace o9 := o9.keep g1; clear qa qc qx)
   | (go_at_call 81; refine (LI.out _).mono ?_; rintro e w2 ⟨rfl, g2⟩; replace gY := gY.tr g2; replace oD := oD.keep g2; replace h0 := h0.keep g2; replace h3 := h3.keep g2; replace o8 := o8.keep g2; replace o9 := o9.keep g2; have u0 := oD.1.2 4 _ rfl; have u1 := oD.1.2 5 _ rfl; have y0 := oD.2 4; have y1 := oD.2 5))
  refine wp_abs (fun Y => Gr w Y ∧ Box Y w.heap.size [.int .u8 x0, .int .u8 x1, .int .u8 x2, .int .u8 x3, .int .u8 x4, .int .u8 x5, .int .u8 x6, .int .u8 x7, .int .u8 x8, .bool x9, .int .u8 x10, .int .u8 x11, .int .u8 x12, .int .u8 x13, .int .u8 x14, .int .u8 x15, .int .u8 x16] ∧ Own Y (w.heap.size + 1 + 1 + 1) [.int .i64 0, .int .i64 0, .int .i64 0, .int .i64 0, .int .i64 0, .int .i64 0, .int .i64 0, .int .i64 0, .int .i64 0, .int .i64 0, .bool false] ∧ Own Y v8 [.int .i64 (1000 * p0 - ch), .int .i64 (1000 * p1 - ch), .int .i64 (1000 * p2 - ch), .int .i64 (1000 * p3 - ch), .int .i64 (micH hei o ch), .int .i64 (1000 * p1 - ch - 2000 * t0), .int .i64 (1000 * p0 - ch - 2000 * t1), .int .i64 (1000 * p1 - ch - 2000 * s0), .int .i64 (1000 * p0 - ch - 2000 * s1)] ∧ Own Y v9 [.int .i64 (1000 * p0 - cl), .int .i64 (1000 * p1 - cl), .int .i64 (1000 * p2 - cl), .int .i64 (1000 * p3 - cl), .int .i64 (micH hei o cl), .int .i64 (1000 * p1 - cl - 2000 * t0), .int .i64 (1000 * p0 - cl - 2000 * t1), .int .i64 (1000 * p1 - cl - 2000 * s0), .int .i64 (1000 * p0 - cl - 2000 * s1)] ∧ Own Y D [.int .i64 (arL (1000 * p0 - ch) (x12 % 4) 0 3000), .int .i64 (arH (1000 * p0 - cl) (x12 % 4) 0 3000), .int .i64 (arL (1000 * p1 - ch) (x13 % 4) 0 3000), .int .i64 (arH (1000 * p1 - cl) (x13 % 4) 0 3000), .int .i64 (arL (micH hei o ch) (x14 % 4) 0 3000), .int .i64 (arH (micH hei o cl) (x14 % 4) 0 3000), .int .i64 0, .int .i64 0, .int .i64 0, .int .i64 0, .bool o]) ⟨(gY.setCell (p := ⟨D, 4, none⟩) hD3 _).setCell (p := ⟨D, 5, none⟩) hD3 _, Box.other (Box.other h0 nD0) nD0, (h3.other nD3).other nD3, (o8.other nD8).other nD8, (o9.other nD9).other nD9, (oD.set (i := 4) (by simp)).set (i := 5) (by simp)⟩ ?_
  clear gY h0 h3 o8 o9 oD AR LI wx wm u0 u1 y0 y1
  rintro Y3 ⟨gY, h0, h3, o8, o9, oD⟩
  have AR := Lib.hid (fun v => around_any (1000 * p1 - ch - 2000 * s0) (1000 * p1 - cl - 2000 * s0) (x15 % 6) (by omega) (by omega) (by omega) (by omega) (by have := hw3.1; omega) (by have := hw3.2; omega) v)
  have LI := Lib.hid (fun v => limited_any ((1000 * p1 - ch - 2000 * s0) / 1000 - x15 % 6) (((1000 * p1 - cl - 2000 * s0) + 999) / 1000 + x15 % 6) (-3000) 3000 v)
  have qa := o8.1.2 7 _ rfl
  have qc := o9.1.2 7 _ rfl
  have qx := h0.2 15 _ rfl
  have wx : IntKind.i64.wrap x15 = x15 := IntWalk.i64_in _ (by have := hw3.1; have := hw3.2; omega)
  have wm : x15.tmod 6 = x15 % 6 := Int.tmod_eq_emod_of_nonneg hw3.1
  go_upto_region 7 with (first
   | (go_at_call 82; refine (AR.out _).mono ?_; rintro e w1 ⟨rfl, g1⟩; replace gY := gY.tr g1; replace oD := oD.keep g1; replace h0 := h0.keep g1; replace h3 := h3.keep g1; replace o8 := o8.keep g1; replace o9 := o9.keep g1; clear qa qc qx)
   | (go_at_call 81; refine (LI.out _).mono ?_; rintro e w2 ⟨rfl, g2⟩; replace gY := gY.tr g2; replace oD := oD.keep g2; replace h0 := h0.keep g2; replace h3 := h3.keep g2; replace o8 := o8.keep g2; replace o9 := o9.keep g2; have u0 := oD.1.2 6 _ rfl; have u1 := oD.1.2 7 _ rfl; have y0 := oD.2 6; have y1 := oD.2 7))
  refine wp_abs (fun Y => Gr w Y ∧ Box Y w.heap.size [.int .u8 x0, .int .u8 x1, .int .u8 x2, .int .u8 x3, .int .u8 x4, .int .u8 x5, .int .u8 x6, .int .u8 x7, .int .u8 x8, .bool x9, .int .u8 x10, .int .u8 x11, .int .u8 x12, .int .u8 x13, .int .u8 x14, .int .u8 x15, .int .u8 x16] ∧ Own Y (w.heap.size + 1 + 1 + 1) [.int .i64 0, .int .i64 0, .int .i64 0, .int .i64 0, .int .i64 0, .int .i64 0, .int .i64 0, .int .i64 0, .int .i64 0, .int .i64 0, .bool false] ∧ Own Y v8 [.int .i64 (1000 * p0 - ch), .int .i64 (1000 * p1 - ch), .int .i64 (1000 * p2 - ch), .int .i64 (1000 * p3 - ch), .int .i64 (micH hei o ch), .int .i64 (1000 * p1 - ch - 2000 * t0), .int .i64 (1000 * p0 - ch - 2000 * t1), .int .i64 (1000 * p1 - ch - 2000 * s0), .int .i64 (1000 * p0 - ch - 2000 * s1)] ∧ Own Y v9 [.int .i64 (1000 * p0 - cl), .int .i64 (1000 * p1 - cl), .int .i64 (1000 * p2 - cl), .int .i64 (1000 * p3 - cl), .int .i64 (micH hei o cl), .int .i64 (1000 * p1 - cl - 2000 * t0), .int .i64 (1000 * p0 - cl - 2000 * t1), .int .i64 (1000 * p1 - cl - 2000 * s0), .int .i64 (1000 * p0 - cl - 2000 * s1)] ∧ Own Y D [.int .i64 (arL (1000 * p0 - ch) (x12 % 4) 0 3000), .int .i64 (arH (1000 * p0 - cl) (x12 % 4) 0 3000), .int .i64 (arL (1000 * p1 - ch) (x13 % 4) 0 3000), .int .i64 (arH (1000 * p1 - cl) (x13 % 4) 0 3000), .int .i64 (arL (micH hei o ch) (x14 % 4) 0 3000), .int .i64 (arH (micH hei o cl) (x14 % 4) 0 3000), .int .i64 (arL (1000 * p1 - ch - 2000 * s0) (x15 % 6) (-3000) 3000), .int .i64 (arH (1000 * p1 - cl - 2000 * s0) (x15 % 6) (-3000) 3000), .int .i64 0, .int .i64 0, .bool o]) ⟨(gY.setCell (p := ⟨D, 6, none⟩) hD3 _).setCell (p := ⟨D, 7, none⟩) hD3 _, Box.other (Box.other h0 nD0) nD0, (h3.other nD3).other nD3, (o8.other nD8).other nD8, (o9.other nD9).other nD9, (oD.set (i := 6) (by simp)).set (i := 7) (by simp)⟩ ?_
  clear gY h0 h3 o8 o9 oD AR LI wx wm u0 u1 y0 y1
  rintro Y4 ⟨gY, h0, h3, o8, o9, oD⟩
  have AR := Lib.hid (fun v => around_any (1000 * p0 - ch - 2000 * s1) (1000 * p0 - cl - 2000 * s1) (x16 % 6) (by omega) (by omega) (by omega) (by omega) (by have := hw4.1; omega) (by have := hw4.2; omega) v)
  have LI := Lib.hid (fun v => limited_any ((1000 * p0 - ch - 2000 * s1) / 1000 - x16 % 6) (((1000 * p0 - cl - 2000 * s1) + 999) / 1000 + x16 % 6) (-3000) 3000 v)
  have qa := o8.1.2 8 _ rfl
  have qc := o9.1.2 8 _ rfl
  have qx := h0.2 16 _ rfl
  have wx : IntKind.i64.wrap x16 = x16 := IntWalk.i64_in _ (by have := hw4.1; have := hw4.2; omega)
  have wm : x16.tmod 6 = x16 % 6 := Int.tmod_eq_emod_of_nonneg hw4.1
  go_upto_region 8 with (first
   | (go_at_call 82; refine (AR.out _).mono ?_; rintro e w1 ⟨rfl, g1⟩; replace gY := gY.tr g1; replace oD := oD.keep g1; replace h0 := h0.keep g1; replace h3 := h3.keep g1; replace o8 := o8.keep g1; replace o9 := o9.keep g1; clear qa qc qx)
   | (go_at_call 81; refine (LI.out _).mono ?_; rintro e w2 ⟨rfl, g2⟩; replace gY := gY.tr g2; replace oD := oD.keep g2; replace h0 := h0.keep g2; replace h3 := h3.keep g2; replace o8 := o8.keep g2; replace o9 := o9.keep g2; have u0 := oD.1.2 8 _ rfl; have u1 := oD.1.2 9 _ rfl; have y0 := oD.2 8; have y1 := oD.2 9))
  refine wp_abs (fun Y => Gr w Y ∧ Box Y w.heap.size [.int .u8 x0, .int .u8 x1, .int .u8 x2, .int .u8 x3, .int .u8 x4, .int .u8 x5, .int .u8 x6, .int .u8 x7, .int .u8 x8, .bool x9, .int .u8 x10, .int .u8 x11, .int .u8 x12, .int .u8 x13, .int .u8 x14, .int .u8 x15, .int .u8 x16] ∧ Own Y (w.heap.size + 1 + 1 + 1) [.int .i64 0, .int .i64 0, .int .i64 0, .int .i64 0, .int .i64 0, .int .i64 0, .int .i64 0, .int .i64 0, .int .i64 0, .int .i64 0, .bool false] ∧ Own Y v8 [.int .i64 (1000 * p0 - ch), .int .i64 (1000 * p1 - ch), .int .i64 (1000 * p2 - ch), .int .i64 (1000 * p3 - ch), .int .i64 (micH hei o ch), .int .i64 (1000 * p1 - ch - 2000 * t0), .int .i64 (1000 * p0 - ch - 2000 * t1), .int .i64 (1000 * p1 - ch - 2000 * s0), .int .i64 (1000 * p0 - ch - 2000 * s1)] ∧ Own Y v9 [.int .i64 (1000 * p0 - cl), .int .i64 (1000 * p1 - cl), .int .i64 (1000 * p2 - cl), .int .i64 (1000 * p3 - cl), .int .i64 (micH hei o cl), .int .i64 (1000 * p1 - cl - 2000 * t0), .int .i64 (1000 * p0 - cl - 2000 * t1), .int .i64 (1000 * p1 - cl - 2000 * s0), .int .i64 (1000 * p0 - cl - 2000 * s1)] ∧ Own Y D [.int .i64 (arL (1000 * p0 - ch) (x12 % 4) 0 3000), .int .i64 (arH (1000 * p0 - cl) (x12 % 4) 0 3000), .int .i64 (arL (1000 * p1 - ch) (x13 % 4) 0 3000), .int .i64 (arH (1000 * p1 - cl) (x13 % 4) 0 3000), .int .i64 (arL (micH hei o ch) (x14 % 4) 0 3000), .int .i64 (arH (micH hei o cl) (x14 % 4) 0 3000), .int .i64 (arL (1000 * p1 - ch - 2000 * s0) (x15 % 6) (-3000) 3000), .int .i64 (arH (1000 * p1 - cl - 2000 * s0) (x15 % 6) (-3000) 3000), .int .i64 (arL (1000 * p0 - ch - 2000 * s1) (x16 % 6) (-3000) 3000), .int .i64 (arH (1000 * p0 - cl - 2000 * s1) (x16 % 6) (-3000) 3000), .bool o]) ⟨(gY.setCell (p := ⟨D, 8, none⟩) hD3 _).setCell (p := ⟨D, 9, none⟩) hD3 _, Box.other (Box.other h0 nD0) nD0, (h3.other nD3).other nD3, (o8.other nD8).other nD8, (o9.other nD9).other nD9, (oD.set (i := 8) (by simp)).set (i := 9) (by simp)⟩ ?_
  clear gY h0 h3 o8 o9 oD AR LI wx wm u0 u1 y0 y1
  rintro Y5 ⟨gY, h0, h3, o8, o9, oD⟩
  clear mA mC bB bC h0 o8 o9
  have r0 := oD.1.2 0 _ rfl
  have q0 := h3.1.2 0 _ rfl
  have z0 := h3.2 0
  have r1 := oD.1.2 1 _ rfl
  have q1 := h3.1.2 1 _ rfl
  have z1 := h3.2 1
  have r2 := oD.1.2 2 _ rfl
  have q2 := h3.1.2 2 _ rfl
  have z2 := h3.2 2
  have r3 := oD.1.2 3 _ rfl
  have q3 := h3.1.2 3 _ rfl
  have z3 := h3.2 3
  have r4 := oD.1.2 4 _ rfl
  have q4 := h3.1.2 4 _ rfl
  have z4 := h3.2 4
  have r5 := oD.1.2 5 _ rfl
  have q5 := h3.1.2 5 _ rfl
  have z5 := h3.2 5
  have r6 := oD.1.2 6 _ rfl
  have q6 := h3.1.2 6 _ rfl
  have z6 := h3.2 6
  have r7 := oD.1.2 7 _ rfl
  have q7 := h3.1.2 7 _ rfl
  have z7 := h3.2 7
  have r8 := oD.1.2 8 _ rfl
  have q8 := h3.1.2 8 _ rfl
  have z8 := h3.2 8
  have r9 := oD.1.2 9 _ rfl
  have q9 := h3.1.2 9 _ rfl
  have z9 := h3.2 9
  have r10 := oD.1.2 10 _ rfl
  have q10 := h3.1.2 10 _ rfl
  have z10 := h3.2 10
  have hn3 : w.heap.size ≤ w.heap.size + 1 + 1 + 1 := by omega
  go_wp2
  refine bodyPost_ret (v := .agg #[.int .i64 (arL (1000 * p0 - ch) (x12 % 4) 0 3000), .int .i64 (arH (1000 * p0 - cl) (x12 % 4) 0 3000), .int .i64 (arL (1000 * p1 - ch) (x13 % 4) 0 3000), .int .i64 (arH (1000 * p1 - cl) (x13 % 4) 0 3000), .int .i64 (arL (micH hei o ch) (x14 % 4) 0 3000), .int .i64 (arH (micH hei o cl) (x14 % 4) 0 3000), .int .i64 (arL (1000 * p1 - ch - 2000 * s0) (x15 % 6) (-3000) 3000), .int .i64 (arH (1000 * p1 - cl - 2000 * s0) (x15 % 6) (-3000) 3000), .int .i64 (arL (1000 * p0 - ch - 2000 * s1) (x16 % 6) (-3000) 3000), .int .i64 (arH (1000 * p0 - cl - 2000 * s1) (x16 % 6) (-3000) 3000), .bool o]) (by simp [results, Try.results41, go_sem, q0, q1, q2, q3, q4, q5, q6, q7, q8, q9, q10]) rfl ⟨rfl, ?_⟩
  exact (((((((((((gY.setCell (p := ⟨w.heap.size + 1 + 1 + 1, 0, none⟩) hn3 _).setCell (p := ⟨w.heap.size + 1 + 1 + 1, 1, none⟩) hn3 _).setCell (p := ⟨w.heap.size + 1 + 1 + 1, 2, none⟩) hn3 _).setCell (p := ⟨w.heap.size + 1 + 1 + 1, 3, none⟩) hn3 _).setCell (p := ⟨w.heap.size + 1 + 1 + 1, 4, none⟩) hn3 _).setCell (p := ⟨w.heap.size + 1 + 1 + 1, 5, none⟩) hn3 _).setCell (p := ⟨w.heap.size + 1 + 1 + 1, 6, none⟩) hn3 _).setCell (p := ⟨w.heap.size + 1 + 1 + 1, 7, none⟩) hn3 _).setCell (p := ⟨w.heap.size + 1 + 1 + 1, 8, none⟩) hn3 _).setCell (p := ⟨w.heap.size + 1 + 1 + 1, 9, none⟩) hn3 _).setCell (p := ⟨w.heap.size + 1 + 1 + 1, 10, none⟩) hn3 _)

end Go.Proofs.Ytoihnilgmdcndaa

namespace Go.Proofs.Ytoihnilgmdcndaa
set_option linter.unusedVariables false
set_option linter.unusedSimpArgs false
open Go.RowKit

/-- No check is named. -/
def NoBad (w : World) (e : Ending) (w' : World) : Prop := ∃ a cap, e = .returned (.tuple #[.slice a 0 cap, .int .i64 0]) ∧ Gr w w'

theorem BadPost.none {l : List (Int × Int)} {w : World} {e : Ending} {w' : World} (h : BadPost l w e w') (hl : l = []) : NoBad w e w' := by
  subst hl
  obtain ⟨a, cap, he, g, _⟩ := h
  exact ⟨a, cap, he, g⟩

/-- One check is named. -/
def OneBad (k c : Int) (w : World) (e : Ending) (w' : World) : Prop := ∃ b off cap, e = .returned (.tuple #[.slice (some ⟨b, off, none⟩) 1 cap, .int .i64 0]) ∧ Gr w w' ∧ b < w'.heap.size ∧ w'.cell? ⟨b, off, none⟩ = some (.int .i64 k) ∧ w'.cell? ⟨b, off + 1, none⟩ = some (.int .i64 c)

theorem BadPost.one {l : List (Int × Int)} {w : World} {e : Ending} {w' : World} {k c : Int} (h : BadPost l w e w') (hl : l = [(k, c)]) : OneBad k c w e w' := by
  subst hl
  obtain ⟨a, cap, he, g, r⟩ := h
  obtain ⟨b, off, rfl, hb, hc⟩ := r.2 0 _ rfl
  have c0 := hc 0 _ rfl
  have c1 := hc 1 _ rfl
  simp only [Nat.zero_mul, Nat.add_zero] at c0 c1
  exact ⟨b, off, cap, he, g, hb, c0, c1⟩

theorem cal4_any (p0 p1 p2 p3 t0 t1 s0 s1 hei : Int) (o : Bool) (W : Wi) (h : Blank4 p0 p1 p2 p3 t0 t1 s0 s1 hei o) (H : W.ok) (pa ta ba : Option Addr) (pc tc bc : Nat) (w : World) (hp : IRow w pa [p0, p1, p2, p3]) (ht : IRow w ta [t0, t1]) (hb : IRow w ba [s0, s1]) :
    Calls Try.prog 43 #[.agg #[.int .i64 30, .slice pa 4 pc, .int .i64 hei, .slice ta 2 tc, .slice ba 2 bc, .int .i64 9, .bool o], .agg #[.int .i64 W.ll, .int .i64 W.lh, .int .i64 W.wl, .int .i64 W.wh, .int .i64 W.hl, .int .i64 W.hh, .int .i64 W.ol, .int .i64 W.oh, .int .i64 W.il, .int .i64 W.ih, .bool W.wo]] w (CalPost (holdW p0 p1 p2 p3 t0 t1 s0 s1 hei o W) 0 w) := by
  have := calipers_any 30 hei 9 [p0, p1, p2, p3] [t0, t1] [s0, s1] pa ta ba pc tc bc o W w hp ht hb
  rw [of_good h.good, show W.err = 0 from of_goodW H] at this
  exact this

theorem CalPost.some {H : Nat → Sp} {w : World} {e : Ending} {w' : World} (h : CalPost H 0 w e w') (hc : (calTo H 10).lo ≤ (calTo H 10).hi) : e = .returned (.tuple #[.agg #[.int .i64 (calTo H 10).lo, .int .i64 (calTo H 10).hi], .int .i64 0]) ∧ Gr w w' := by
  obtain ⟨g, h | h | h⟩ := h
  · exact absurd rfl h.1
  · exact absurd h.2.1 (by omega)
  · exact ⟨h.2.2, g⟩

theorem CalPost.none {H : Nat → Sp} {w : World} {e : Ending} {w' : World} (h : CalPost H 0 w e w') (hc : (calTo H 10).hi < (calTo H 10).lo) : e = .returned (.tuple #[.agg #[.int .i64 0, .int .i64 0], .int .i64 7]) ∧ Gr w w' := by
  obtain ⟨g, h | h | h⟩ := h
  · exact absurd rfl h.1
  · exact ⟨h.2.2, g⟩
  · exact absurd hc h.2.1

end Go.Proofs.Ytoihnilgmdcndaa

namespace Go.Proofs.Ytoihnilgmdcndaa
set_option linter.unusedVariables false
set_option linter.unusedSimpArgs false
open Go.RowKit

/-- D: values that lead to new blocks, or to those of such a value that came before; E: variables. -/
theorem wp_region_own {P : Program} {Q : Exit → Act → World → Prop} {id : Nat} {W : World} {l : List Oper} (n : Nat) (ds : List (Nat × Nat)) (D E : List Nat) (hDE : ∀ j ∈ D, j ∉ E) (fr : (Nat → Value) → Act) (x0 : Nat → Value) (Fs : List (World → Value → Prop)) {a : Act} (ha : a = fr x0) (hm : P.follows .mixedOrders = true)
    (hB : (decide (n < l.toArray.size) && Region.sinkB .any l.toArray n && Region.chainB .any l.toArray n && minB .any l.toArray n && Region.seqB .any l.toArray (l.toArray.size - n) n (Array.replicate n true ++ Array.replicate (l.toArray.size - n) false)) = true)
    (hD : depB .any l.toArray ds = true)
    (hst : ∀ (i : Nat) (F : World → Value → Prop), Fs[i]? = some F → Stays F)
    (hstep : ∀ i, i < n → ∀ x v, Gr W v → (∀ (j : Nat) (F : World → Value → Prop), (i, j) ∈ ds → Fs[j]? = some F → F v (x j)) → ∀ K : Act → World → Prop, (∀ u v', Gr v v' → (∀ F : World → Value → Prop, Fs[i]? = some F → F v' u) → (i ∈ D ∨ i ∈ E → ∀ b, hasB u b → (v.heap.size ≤ b ∧ b < v'.heap.size) ∨ (i ∈ D ∧ ∃ j ∈ D, (i, j) ∈ ds ∧ hasB (x j) b)) → K (fr (upd x i u)) v') → wpOp P l.toArray Q i K (fr x) v)
    (hend : ∀ x v, Gr W v → (∀ (j : Nat) (F : World → Value → Prop), j < n → Fs[j]? = some F → F v (x j)) → (∀ i j, (i ∈ D ∨ i ∈ E) → j ∈ E → i ≠ j → i < n → j < n → ∀ b, hasB (x i) b → ¬ hasB (x j) b) → wpList P l.toArray Q (l.drop n) (fr x) v) : (Code.region id l.toArray true).wp P Q a W := by
  subst ha
  refine wp_region_inv' n ds (fun _ listed a v => ∃ x, a = fr x ∧ Gr W v ∧ (∀ (j : Nat) (F : World → Value → Prop), Fs[j]? = some F → listed.getD j false = true → F v (x j)) ∧ (∀ j, (j ∈ D ∨ j ∈ E) → listed.getD j false = true → ∀ b, hasB (x j) b → b < v.heap.size) ∧
      (∀ i j, (i ∈ D ∨ i ∈ E) → j ∈ E → i ≠ j → listed.getD i false = true → listed.getD j false = true → ∀ b, hasB (x i) b → ¬ hasB (x j) b)) hm hB hD
    ⟨x0, rfl, Gr.dr W, fun j F _ h => (by rw [getD_replicate_false] at h; cases h), fun j _ h => (by rw [getD_replicate_false] at h; cases h), fun i j _ _ _ h => (by rw [getD_replicate_false] at h; cases h)⟩ ?_ ?_
  · rintro i hi listed a v hun hdep ⟨x, rfl, gv, hf, hb, hap⟩
    refine hstep i hi x v gv (fun j F hj hF => hf j F hF (hdep j hj)) _ (fun u v' hg hu hn => ⟨upd x i u, rfl, gv.tr hg, fun j F hF hl => ?_, fun j hj hl b hbb => ?_, fun j k hj hk hjk hl1 hl2 b hb1 hb2 => ?_⟩)
    · by_cases e : j = i
      · subst e
        rw [upd_at]
        exact hu F hF
      · rw [upd_ne x u e]
        exact hst j F hF v v' _ hg (hf j F hF (by rwa [getD_set_ne false (fun e' => e e'.symm)] at hl))
    · by_cases e : j = i
      · subst e
        rw [upd_at] at hbb
        rcases hn hj b hbb with h | ⟨_, q, hq, hqd, hqb⟩
        · exact h.2
        · exact Nat.lt_of_lt_of_le (hb q (.inl hq) (hdep q hqd) b hqb) hg.size
      · rw [upd_ne x u e] at hbb
        exact Nat.lt_of_lt_of_le (hb j hj (by rwa [getD_set_ne false (fun e' => e e'.symm)] at hl) b hbb) hg.size
    · by_cases e1 : j = i
      · subst e1
        have e2 : ¬ k = j := fun e => hjk e.symm
        rw [upd_at] at hb1
        rw [upd_ne x u e2] at hb2
        have hl3 : listed.getD k false = true := by rwa [getD_set_ne false (fun e' => e2 e'.symm)] at hl2
        have h2 := hb k (.inr hk) hl3 b hb2
        rcases hn hj b hb1 with h | ⟨_, q, hq, hqd, hqb⟩
        · omega
        · exact hap q k (.inl hq) hk (fun e => hDE q hq (e ▸ hk)) (hdep q hqd) hl3 b hqb hb2
      · rw [upd_ne x u e1] at hb1
        have h3 : listed.getD j false = true := by rwa [getD_set_ne false (fun e' => e1 e'.symm)] at hl1
        by_cases e2 : k = i
        · subst e2
          rw [upd_at] at hb2
          rcases hn (.inr hk) b hb2 with h | ⟨hd, _⟩
          · have h2 := hb j hj h3 b hb1
            omega
          · exact absurd hk (hDE k hd)
        · rw [upd_ne x u e2] at hb2
          exact hap j k hj hk hjk h3 (by rwa [getD_set_ne false (fun e' => e2 e'.symm)] at hl2) b hb1 hb2
  · rintro listed a v hs hall ⟨x, rfl, gv, hf, hb, hap⟩
    have hl1 : ∀ j, j < n → listed.getD j false = true := fun j hj => by
      have h1 := hall j hj
      have hl : j < listed.size := by omega
      simp [hl] at h1 ⊢
      exact h1
    exact hend x v gv (fun j F hj hF => hf j F hF (hl1 j hj)) (fun i j hi hj hij hin hjn => hap i j hi hj hij (hl1 i hin) (hl1 j hjn))

end Go.Proofs.Ytoihnilgmdcndaa

namespace Go.Proofs.Ytoihnilgmdcndaa
set_option linter.unusedVariables false
set_option linter.unusedSimpArgs false
open Go.RowKit

theorem agg_new {v w : World} {p : Bool} {a b c : Option Addr} {l m n i j k : Nat} {q s u : Int} (ha : ∀ ad, a = some ad → v.heap.size ≤ ad.block ∧ ad.block < w.heap.size) (hb : ∀ ad, b = some ad → v.heap.size ≤ ad.block ∧ ad.block < w.heap.size) (hc : ∀ ad, c = some ad → v.heap.size ≤ ad.block ∧ ad.block < w.heap.size) : ∀ r, hasB (.agg #[.int .i64 q, .slice a l i, .int .i64 s, .slice b m j, .slice c n k, .int .i64 u, .bool p]) r → v.heap.size ≤ r ∧ r < w.heap.size := by
  have one : ∀ (a : Option Addr) (l i r : Nat), (∀ ad, a = some ad → v.heap.size ≤ ad.block ∧ ad.block < w.heap.size) → blkOf (.slice a l i) = some r → v.heap.size ≤ r ∧ r < w.heap.size := by
    intro a l i r h e
    cases a with
    | none => simp [blkOf] at e
    | some ad =>
      simp [blkOf] at e
      subst e
      exact h ad rfl
  rintro r (h | ⟨cs, h, e, he, hh⟩)
  · simp [blkOf] at h
  · cases h
    simp only [List.mem_toArray, List.mem_cons, List.not_mem_nil, or_false] at he
    rcases he with rfl | rfl | rfl | rfl | rfl | rfl | rfl
    · simp [blkOf] at hh
    · exact one _ _ _ _ ha hh
    · simp [blkOf] at hh
    · exact one _ _ _ _ hb hh
    · exact one _ _ _ _ hc hh
    · simp [blkOf] at hh
    · simp [blkOf] at hh

/-- The blocks to which a blank's value leads. -/
theorem agg_three {p : Bool} {a b c : Option Addr} {l m n i j k : Nat} {q s u : Int} {r : Nat} (h : hasB (.agg #[.int .i64 q, .slice a l i, .int .i64 s, .slice b m j, .slice c n k, .int .i64 u, .bool p]) r) : blkOf (.slice a l i) = some r ∨ blkOf (.slice b m j) = some r ∨ blkOf (.slice c n k) = some r := by
  rcases h with h | ⟨cs, h, e, he, hh⟩
  · simp [blkOf] at h
  · cases h
    simp only [List.mem_toArray, List.mem_cons, List.not_mem_nil, or_false] at he
    rcases he with rfl | rfl | rfl | rfl | rfl | rfl | rfl
    · simp [blkOf] at hh
    · exact .inl hh
    · simp [blkOf] at hh
    · exact .inr (.inl hh)
    · exact .inr (.inr hh)
    · simp [blkOf] at hh
    · simp [blkOf] at hh

theorem three_agg {p : Bool} {a b c : Option Addr} {l m n i j k : Nat} {q s u : Int} {r : Nat} (h : blkOf (.slice a l i) = some r ∨ blkOf (.slice b m j) = some r ∨ blkOf (.slice c n k) = some r) : hasB (.agg #[.int .i64 q, .slice a l i, .int .i64 s, .slice b m j, .slice c n k, .int .i64 u, .bool p]) r := by
  refine .inr ⟨_, rfl, ?_⟩
  rcases h with h | h | h
  · exact ⟨_, by simp, h⟩
  · exact ⟨.slice b m j, by simp, h⟩
  · exact ⟨.slice c n k, by simp, h⟩

/-- The twin of a blank, its rows known. -/
def TwinAt (p0 p1 t0 t1 hei : Int) (o : Bool) (ba : Option Addr) (bc : Nat) (w : World) (e : Ending) (w' : World) : Prop :=
  ∃ P T tc, e = .returned (.agg #[.int .i64 30, .slice (some ⟨P, 0, none⟩) 4 4, .int .i64 hei, .slice (some ⟨T, 0, none⟩) 2 tc, .slice ba 2 bc, .int .i64 9, .bool o]) ∧ Gr w w' ∧ IRow w' (some ⟨P, 0, none⟩) [p0, p1, p0, p1] ∧ IRow w' (some ⟨T, 0, none⟩) [t0, t1] ∧ (w.heap.size ≤ P ∧ P < w'.heap.size) ∧ (w.heap.size ≤ T ∧ T < w'.heap.size)

theorem twin_at (p0 p1 p2 p3 u0 u1 s0 s1 t0 t1 hei : Int) (o : Bool) (hto : topOf o s0 s1 = [t0, t1]) (pa ta ba : Option Addr) (pc tc bc : Nat) (w : World) (hp : IRow w pa [p0, p1, p2, p3]) (ht : IRow w ta [u0, u1]) (hb : IRow w ba [s0, s1]) :
    Calls Try.prog 38 #[.agg #[.int .i64 30, .slice pa 4 pc, .int .i64 hei, .slice ta 2 tc, .slice ba 2 bc, .int .i64 9, .bool o]] w (TwinAt p0 p1 t0 t1 hei o ba bc w) := by
  have go : ∀ {e w'}, TwinPost p0 p1 s0 s1 hei o ba bc w e w' → TwinAt p0 p1 t0 t1 hei o ba bc w e w' := by
    rintro e w' ⟨P, T, c, he, g, rP, rT, lP, lT, lT'⟩
    rw [hto] at rT
    exact ⟨P, T, c, he, g, Own.row (l := [p0, p1, p0, p1]) rP (by simp), rT, ⟨lP, rP.1.1⟩, ⟨lT, lT'⟩⟩
  cases o with
  | false => exact (twin_false p0 p1 p2 p3 u0 u1 s0 s1 hei pa ta ba pc tc bc w hp ht hb).mono fun _ _ h => go h
  | true => exact (twin_true p0 p1 p2 p3 u0 u1 s0 s1 hei pa ta ba pc tc bc w hp ht hb).mono fun _ _ h => go h

/-- The twin's value leads to new blocks, and to the bottom's. -/
theorem twin_own {p : Bool} {P T tc : Nat} {ba : Option Addr} {bc : Nat} {q s u : Int} {v w : World} (hP : v.heap.size ≤ P ∧ P < w.heap.size) (hT : v.heap.size ≤ T ∧ T < w.heap.size) {r : Nat} (h : hasB (.agg #[.int .i64 q, .slice (some ⟨P, 0, none⟩) 4 4, .int .i64 s, .slice (some ⟨T, 0, none⟩) 2 tc, .slice ba 2 bc, .int .i64 u, .bool p]) r) :
    (v.heap.size ≤ r ∧ r < w.heap.size) ∨ blkOf (.slice ba 2 bc) = some r := by
  rcases agg_three h with h | h | h
  · simp [blkOf] at h; subst h; exact .inl hP
  · simp [blkOf] at h; subst h; exact .inl hT
  · exact .inr h

end Go.Proofs.Ytoihnilgmdcndaa

namespace Go.Proofs.Ytoihnilgmdcndaa
set_option linter.unusedVariables false
set_option linter.unusedSimpArgs false
open Go.RowKit

theorem firstN_spec (p : Nat → Bool) (n : Nat) : (∀ i, i < firstN p n → p i = false) ∧ (firstN p n < n → p (firstN p n) = true) := by
 unfold firstN
 cases e : (List.range n).find? p with
 | none =>
  rw [List.find?_range_eq_none] at e
  simp only [Option.getD_none]
  exact ⟨fun i hi => by simpa using e i hi, fun h => absurd h (Nat.lt_irrefl _)⟩
 | some r =>
  rw [List.find?_range_eq_some] at e
  simp only [Option.getD_some]
  exact ⟨fun i hi => by simpa using e.2.2 i hi, fun _ => e.1⟩

/-- The calipers with which a check holds, by its measure. -/
def holdM (opn : Bool) (W : Wi) (k : Nat) (F : Int) : Sp :=
 if (opn || W.wo) = true ∧ (k = 5 ∨ k = 6) then (if k = 5 ∧ opn ≠ W.wo then ⟨0, 0⟩ else ⟨1, 10000⟩)
 else ⟨max 1 ((F - (inS W.ll W.lh W.wl W.wh W.hl W.hh W.ol W.oh W.il W.ih k).hi).tdiv (lostL k opn)), min 10000 ((F - (inS W.ll W.lh W.wl W.wh W.hl W.hh W.ol W.oh W.il W.ih k).lo).tdiv (lostL k opn))⟩

def FL (opn : Bool) (d : Dr) (k : Nat) : Int := (flatS 0 d.hei d.slo d.p d.t d.b opn k).lo

theorem hL_M (opn : Bool) (W : Wi) (d : Dr) (k : Nat) : hL opn W d k = holdM opn W k (FL opn d k) := rfl

theorem holdM_mono {opn : Bool} {W : Wi} {k : Nat} {F G : Int} (h : F ≤ G) : (holdM opn W k F).lo ≤ (holdM opn W k G).lo ∧ (holdM opn W k F).hi ≤ (holdM opn W k G).hi := by
 unfold holdM
 by_cases c : (opn || W.wo) = true ∧ (k = 5 ∨ k = 6)
 ·rw [if_pos c, if_pos c]; exact ⟨Int.le_refl _, Int.le_refl _⟩
 ·rw [if_neg c, if_neg c]
  have a := tdiv_mono (lostL_12 (k : Int) opn) (Int.sub_le_sub_right h (inS W.ll W.lh W.wl W.wh W.hl W.hh W.ol W.oh W.il W.ih k).hi)
  have b := tdiv_mono (lostL_12 (k : Int) opn) (Int.sub_le_sub_right h (inS W.ll W.lh W.wl W.wh W.hl W.hh W.ol W.oh W.il W.ih k).lo)
  exact ⟨by simp only; omega, by simp only; omega⟩

theorem okAll_iff {s : Sp} {cl ch : Int} (h : cl ≤ ch) : okAll s cl ch = true ↔ s.lo ≤ cl ∧ ch ≤ s.hi := by
 simp only [okAll, inB, in1, List.all_cons, List.all_nil, Bool.and_true, Bool.and_eq_true, decide_eq_true_eq]
 omega

def Dr.flap (d : Dr) (k : Nat) : Int := if k < 7 then d.t.getD ((k - 5) % 2) 0 else d.b.getD ((k - 5) % 2) 0

theorem FL_pan (opn : Bool) (d : Dr) {k : Nat} (h : k < 4) : FL opn d k = 1000 * max 1 (d.p.getD k 0) := by
 unfold FL flatS flatAt
 rw [if_neg (by omega), if_pos h, near0]

theorem FL_hei (opn : Bool) (d : Dr) : FL opn d 4 = 1000 * max 1 d.hei := by
 unfold FL flatS flatAt
 rw [if_neg (by omega), if_neg (by omega), if_pos rfl, near0]

theorem FL_slo (opn : Bool) (d : Dr) : FL opn d 9 = 1000 * max 0 d.slo := by
 unfold FL flatS
 rw [if_pos rfl, near0]

theorem FL_gap (opn : Bool) (d : Dr) {k : Nat} (h5 : 5 ≤ k) (h8 : k ≤ 8) : FL opn d k = 1000 * max 1 (d.p.getD (1 - (k - 5) % 2) 0) - 2000 * (if k < 7 ∧ opn = true then 0 else min 3000 (d.flap k)) := by
 unfold FL flatS flatAt Dr.flap
 rw [if_neg (by omega), if_neg (by omega), if_neg (by omega)]
 unfold gapS flapS
 rw [near0]
 by_cases h7 : k < 7
 ·rw [if_pos (show (k - 5) / 2 = 0 by omega), if_pos h7]
  cases opn with
  | true => simp [h7]
  | false => simp [near0]
 ·rw [if_neg (show ¬ (k - 5) / 2 = 0 by omega), if_neg h7, if_neg (fun h => h7 h.1), near0]

theorem getDl_set_ne {l : List Int} {i j : Nat} (h : i ≠ j) (v : Int) : (l.set i v).getD j 0 = l.getD j 0 := by
 simp [List.getD, List.getElem?_set_ne h]

/-- All but what belongs to panel i is as it was. -/
structure SameBut (i : Nat) (d e : Dr) : Prop where
 L : DrL e
 p : ∀ j, j ≠ i → e.p.getD j 0 = d.p.getD j 0
 f : ∀ k, 5 ≤ k → k ≤ 8 → 1 - (k - 5) % 2 ≠ i → e.flap k = d.flap k
 h : e.hei = d.hei
 s : e.slo = d.slo

theorem SameBut.tr {i : Nat} {d e g : Dr} (h1 : SameBut i d e) (h2 : SameBut i e g) : SameBut i d g :=
 ⟨h2.L, fun j hj => (h2.p j hj).trans (h1.p j hj), fun k h5 h8 hk => (h2.f k h5 h8 hk).trans (h1.f k h5 h8 hk), h2.h.trans h1.h, h2.s.trans h1.s⟩

theorem SameBut.pan {i : Nat} {d : Dr} (h : DrL d) (v : Int) : SameBut i d (d.put (.pan i) v) :=
 ⟨h.put _ _, fun j hj => getDl_set_ne (Ne.symm hj) v, fun k _ _ _ => rfl, rfl, rfl⟩

theorem flap_put {d : Dr} (h : DrL d) {k : Nat} (h5 : 5 ≤ k) (h8 : k ≤ 8) (v : Int) : (d.put (meOf k) v).flap k = v ∧ ∀ j, 5 ≤ j → j ≤ 8 → j ≠ k → (d.put (meOf k) v).flap j = d.flap j := by
 have ht := h.t
 have hb := h.b
 unfold meOf
 by_cases h7 : k < 7
 ·rw [if_pos h7]
  refine ⟨?_, fun j j5 j8 hj => ?_⟩
  ·simp only [Dr.put, Dr.flap, if_pos h7]
   exact getD_set (by omega) v
  ·simp only [Dr.put, Dr.flap]
   split
   ·exact getDl_set_ne (by omega) v
   ·rfl
 ·rw [if_neg h7]
  refine ⟨?_, fun j j5 j8 hj => ?_⟩
  ·simp only [Dr.put, Dr.flap, if_neg h7]
   exact getD_set (by omega) v
  ·simp only [Dr.put, Dr.flap]
   split
   ·rfl
   ·exact getDl_set_ne (by omega) v

theorem SameBut.gap {d : Dr} (h : DrL d) {i k : Nat} (h5 : 5 ≤ k) (h8 : k ≤ 8) (hi : 1 - (k - 5) % 2 = i) (v : Int) : SameBut i d (d.put (meOf k) v) ∧ (d.put (meOf k) v).p = d.p := by
 have hp : (d.put (meOf k) v).p = d.p := by unfold meOf; split <;> rfl
 exact ⟨⟨h.put _ _, fun j _ => by rw [hp], fun j j5 j8 hj => (flap_put h h5 h8 v).2 j j5 j8 (fun e => hj (e ▸ hi)), by unfold meOf; split <;> rfl, by unfold meOf; split <;> rfl⟩, hp⟩

/-- What is drawn. -/
theorem draw_is (opn : Bool) (W : Wi) (cl ch : Int) (en : Sp → Bool) (k : Nat) (room : Sp) (m : Me) (d : Dr) :
  ∃ v, room.lo ≤ v ∧ (drawD opn W cl ch en k room m d).1 = d.put m v ∧ ((drawD opn W cl ch en k room m d).2 = true ↔ v ≤ room.hi ∧ okAll (hL opn W (d.put m v) k) cl ch = true) ∧
   (∀ u, room.lo ≤ u → u ≤ room.hi → en (hL opn W (d.put m u) k) = true → v ≤ u ∧ en (hL opn W (d.put m v) k) = true) ∧ (v ≤ room.hi → en (hL opn W (d.put m v) k) = true) := by
 obtain ⟨r, hr⟩ : ∃ r, leastD opn W en k room m d = r := ⟨_, rfl⟩
 have sp := firstN_spec (fun i => en (hL opn W (d.put m (room.lo + (i : Int))) k)) (room.hi - room.lo + 1).toNat
 have e : firstN (fun i => en (hL opn W (d.put m (room.lo + (i : Int))) k)) (room.hi - room.lo + 1).toNat = r := hr
 rw [e] at sp
 refine ⟨room.lo + (r : Int), by omega, by unfold drawD; rw [hr], ?_, fun u hu hv hen => ?_, fun h => sp.2 (by omega)⟩
 ·unfold drawD
  rw [hr, Bool.and_eq_true, decide_eq_true_eq]
  constructor
  ·rintro ⟨a, b⟩; exact ⟨by omega, b⟩
  ·rintro ⟨a, b⟩; exact ⟨by omega, b⟩
 ·have hru : r ≤ (u - room.lo).toNat := by
   rcases Nat.lt_or_ge (u - room.lo).toNat r with h | h
   ·have := sp.1 _ h
    rw [show room.lo + ((u - room.lo).toNat : Int) = u by omega, hen] at this
    cases this
   ·exact h
  exact ⟨by omega, sp.2 (by omega)⟩

/-- A blank lies in the room, and closes. -/
structure Fea (R : Rm) (W : Wi) (cl ch : Int) (x : Dr) : Prop where
 pan : ∀ i, i < 4 → (R.pn i).lo ≤ x.p.getD i 0 ∧ x.p.getD i 0 ≤ (R.pn i).hi
 flap : ∀ k, 5 ≤ k → k ≤ 8 → (R.fl k).lo ≤ x.flap k ∧ x.flap k ≤ (R.fl k).hi
 hei : R.he.lo ≤ x.hei ∧ x.hei ≤ R.he.hi
 slo : R.sl.lo ≤ x.slo ∧ x.slo ≤ R.sl.hi
 ok : ∀ k, k < 10 → okAll (hL R.opn W x k) cl ch = true

/-- One flap in the room, and its check. -/
def FlapOk (R : Rm) (W : Wi) (cl ch : Int) (k : Nat) (d : Dr) : Prop := (R.fl k).lo ≤ d.flap k ∧ d.flap k ≤ (R.fl k).hi ∧ okAll (hL R.opn W d k) cl ch = true

/-- A panel and its flaps. -/
def PanOk (R : Rm) (W : Wi) (cl ch : Int) (i : Nat) (d : Dr) : Prop :=
 ((R.pn i).lo ≤ d.p.getD i 0 ∧ d.p.getD i 0 ≤ (R.pn i).hi) ∧ okAll (hL R.opn W d i) cl ch = true ∧ ∀ k, 5 ≤ k → k ≤ 8 → 1 - (k - 5) % 2 = i → FlapOk R W cl ch k d

theorem hL_gap {opn : Bool} {W : Wi} {d e : Dr} {k : Nat} (h5 : 5 ≤ k) (h8 : k ≤ 8) (hp : e.p.getD (1 - (k - 5) % 2) 0 = d.p.getD (1 - (k - 5) % 2) 0) (hf : e.flap k = d.flap k) : hL opn W e k = hL opn W d k := by
 rw [hL_M, hL_M, FL_gap opn e h5 h8, FL_gap opn d h5 h8, hp, hf]

theorem hL_pan {opn : Bool} {W : Wi} {d e : Dr} {k : Nat} (h : k < 4) (hp : e.p.getD k 0 = d.p.getD k 0) : hL opn W e k = hL opn W d k := by
 rw [hL_M, hL_M, FL_pan opn e h, FL_pan opn d h, hp]

theorem FlapOk.as {R : Rm} {W : Wi} {cl ch : Int} {k : Nat} {d e : Dr} (h : FlapOk R W cl ch k d) (h5 : 5 ≤ k) (h8 : k ≤ 8) (hp : e.p.getD (1 - (k - 5) % 2) 0 = d.p.getD (1 - (k - 5) % 2) 0) (hf : e.flap k = d.flap k) : FlapOk R W cl ch k e := by
 obtain ⟨a, b, c⟩ := h
 exact ⟨by rw [hf]; exact a, by rw [hf]; exact b, by rw [hL_gap h5 h8 hp hf]; exact c⟩

theorem PanOk.but {R : Rm} {W : Wi} {cl ch : Int} {i j : Nat} {d e : Dr} (h : PanOk R W cl ch i d) (hi : i < 4) (hne : i ≠ j) (s : SameBut j d e) : PanOk R W cl ch i e := by
 obtain ⟨a, b, c⟩ := h
 refine ⟨by rw [s.p i hne]; exact a, by rw [hL_pan hi (s.p i hne)]; exact b, fun k h5 h8 hk => (c k h5 h8 hk).as h5 h8 ?_ ?_⟩
 ·rw [hk]; exact s.p i hne
 ·exact s.f k h5 h8 (by omega)

theorem flaps_01 (R : Rm) (W : Wi) (cl ch : Int) {i : Nat} (hi : i < 2) (d : Dr) : flapsD R W cl ch i d =
  (if (drawD R.opn W cl ch (fallE cl) (6 - i) (R.fl (6 - i)) (meOf (6 - i)) d).2 = true then
   (if (drawD R.opn W cl ch (fallE cl) (8 - i) (R.fl (8 - i)) (meOf (8 - i)) (drawD R.opn W cl ch (fallE cl) (6 - i) (R.fl (6 - i)) (meOf (6 - i)) d).1).2 = true then
    ((drawD R.opn W cl ch (fallE cl) (8 - i) (R.fl (8 - i)) (meOf (8 - i)) (drawD R.opn W cl ch (fallE cl) (6 - i) (R.fl (6 - i)) (meOf (6 - i)) d).1).1, 10)
   else ((drawD R.opn W cl ch (fallE cl) (8 - i) (R.fl (8 - i)) (meOf (8 - i)) (drawD R.opn W cl ch (fallE cl) (6 - i) (R.fl (6 - i)) (meOf (6 - i)) d).1).1, 8 - i))
  else ((drawD R.opn W cl ch (fallE cl) (6 - i) (R.fl (6 - i)) (meOf (6 - i)) d).1, 6 - i)) := by
 match i, hi with
 | 0, _ => rfl
 | 1, _ => rfl

theorem flaps_23 (R : Rm) (W : Wi) (cl ch : Int) {i : Nat} (hi : 2 ≤ i) (d : Dr) : flapsD R W cl ch i d = (d, 10) := by
 unfold flapsD
 have : ∀ n k, flapsFrom R W cl ch i n k d = (d, 10) := by
  intro n
  induction n with
  | zero => intro k; rfl
  | succ n ih =>
   intro k
   unfold flapsFrom
   rw [if_neg (by omega), ih]
 exact this 4 5

theorem flaps_le (R : Rm) (W : Wi) (cl ch : Int) (i : Nat) (d : Dr) : (flapsD R W cl ch i d).2 ≤ 10 := by
 rcases Nat.lt_or_ge i 2 with hi | hi
 ·rw [flaps_01 R W cl ch hi]
  split
  ·split <;> simp only <;> omega
  ·simp only; omega
 ·rw [flaps_23 R W cl ch hi]; exact Nat.le_refl _

/-- Whatever comes of the flaps, nothing else is changed; if they are found, they are as they must be. -/
theorem flaps_same (R : Rm) (W : Wi) (cl ch : Int) {i : Nat} {d : Dr} (h : DrL d) : SameBut i d (flapsD R W cl ch i d).1 ∧ (flapsD R W cl ch i d).1.p = d.p ∧
  ((flapsD R W cl ch i d).2 = 10 → ∀ k, 5 ≤ k → k ≤ 8 → 1 - (k - 5) % 2 = i → FlapOk R W cl ch k (flapsD R W cl ch i d).1) := by
 rcases Nat.lt_or_ge i 2 with hi | hi
 case inr =>
  rw [flaps_23 R W cl ch hi]
  exact ⟨⟨h, fun _ _ => rfl, fun _ _ _ _ => rfl, rfl, rfl⟩, rfl, fun _ k h5 h8 hk => by omega⟩
 rw [flaps_01 R W cl ch hi]
 obtain ⟨v, hv0, hv, hok, _⟩ := draw_is R.opn W cl ch (fallE cl) (6 - i) (R.fl (6 - i)) (meOf (6 - i)) d
 rw [hv]
 obtain ⟨u, hu0, hu, hok2, _⟩ := draw_is R.opn W cl ch (fallE cl) (8 - i) (R.fl (8 - i)) (meOf (8 - i)) (d.put (meOf (6 - i)) v)
 rw [hu]
 obtain ⟨s1, p1⟩ := SameBut.gap h (i := i) (k := 6 - i) (by omega) (by omega) (by omega) v
 obtain ⟨f1, g1⟩ := flap_put h (k := 6 - i) (by omega) (by omega) v
 obtain ⟨s2, p2⟩ := SameBut.gap s1.L (i := i) (k := 8 - i) (by omega) (by omega) (by omega) u
 obtain ⟨f2, g2⟩ := flap_put s1.L (k := 8 - i) (by omega) (by omega) u
 by_cases c1 : (drawD R.opn W cl ch (fallE cl) (6 - i) (R.fl (6 - i)) (meOf (6 - i)) d).2 = true
 ·rw [if_pos c1]
  by_cases c2 : (drawD R.opn W cl ch (fallE cl) (8 - i) (R.fl (8 - i)) (meOf (8 - i)) (d.put (meOf (6 - i)) v)).2 = true
  ·rw [if_pos c2]
   refine ⟨s1.tr s2, p2.trans p1, fun _ k h5 h8 hk => ?_⟩
   obtain ⟨a1, a2⟩ := hok.1 c1
   obtain ⟨b1, b2⟩ := hok2.1 c2
   have hk2 : k = 6 - i ∨ k = 8 - i := by omega
   have A : FlapOk R W cl ch (6 - i) (d.put (meOf (6 - i)) v) := ⟨by rw [f1]; exact hv0, by rw [f1]; exact a1, a2⟩
   have B : FlapOk R W cl ch (8 - i) ((d.put (meOf (6 - i)) v).put (meOf (8 - i)) u) := ⟨by rw [f2]; exact hu0, by rw [f2]; exact b1, b2⟩
   rcases hk2 with rfl | rfl
   ·exact A.as (by omega) (by omega) (by rw [p2]) (g2 _ (by omega) (by omega) (by omega))
   ·exact B
  ·rw [if_neg c2]
   exact ⟨s1.tr s2, p2.trans p1, fun e => by simp only at e; omega⟩
 ·rw [if_neg c1]
  exact ⟨s1, p1, fun e => by simp only at e; omega⟩

/-- A flap that will do is not shorter than the drawn one, which will do. -/
theorem flap_draw {R : Rm} {W : Wi} {cl ch : Int} (hc : cl ≤ ch) {k : Nat} (h5 : 5 ≤ k) (h8 : k ≤ 8) {d : Dr} (h : DrL d) {u : Int} (u0 : (R.fl k).lo ≤ u) (u1 : u ≤ (R.fl k).hi) (hu : okAll (hL R.opn W (d.put (meOf k) u) k) cl ch = true) :
  ∃ v, (drawD R.opn W cl ch (fallE cl) k (R.fl k) (meOf k) d).1 = d.put (meOf k) v ∧ v ≤ u ∧ (drawD R.opn W cl ch (fallE cl) k (R.fl k) (meOf k) d).2 = true := by
 obtain ⟨v, hv0, hv, hok, hle, _⟩ := draw_is R.opn W cl ch (fallE cl) k (R.fl k) (meOf k) d
 rw [okAll_iff hc] at hu
 obtain ⟨a, b⟩ := hle u u0 u1 (by simp only [fallE, decide_eq_true_eq]; exact hu.1)
 refine ⟨v, hv, a, hok.2 ⟨by omega, ?_⟩⟩
 rw [okAll_iff hc]
 refine ⟨by simpa [fallE] using b, Int.le_trans hu.2 ?_⟩
 rw [hL_M, hL_M]
 refine (holdM_mono ?_).2
 rw [FL_gap _ _ h5 h8, FL_gap _ _ h5 h8, (flap_put h h5 h8 v).1, (flap_put h h5 h8 u).1, (SameBut.gap h h5 h8 rfl v).2, (SameBut.gap h h5 h8 rfl u).2]
 split <;> omega

theorem flaps_found {R : Rm} {W : Wi} {cl ch : Int} (hc : cl ≤ ch) {i : Nat} {d x : Dr} (h : DrL d) (hx : DrL x) (hp : d.p.getD i 0 = x.p.getD i 0) (hk : ∀ k, 5 ≤ k → k ≤ 8 → 1 - (k - 5) % 2 = i → FlapOk R W cl ch k x) :
  (flapsD R W cl ch i d).2 = 10 ∧ ∀ k, 5 ≤ k → k ≤ 8 → 1 - (k - 5) % 2 = i → (flapsD R W cl ch i d).1.flap k ≤ x.flap k := by
 rcases Nat.lt_or_ge i 2 with hi | hi
 case inr =>
  rw [flaps_23 R W cl ch hi]
  exact ⟨rfl, fun k h5 h8 e => by omega⟩
 rw [flaps_01 R W cl ch hi]
 have A := hk (6 - i) (by omega) (by omega) (by omega)
 have B := hk (8 - i) (by omega) (by omega) (by omega)
 have eA : hL R.opn W (d.put (meOf (6 - i)) (x.flap (6 - i))) (6 - i) = hL R.opn W x (6 - i) := hL_gap (by omega) (by omega) (by rw [(SameBut.gap h (k := 6 - i) (by omega) (by omega) rfl _).2, show 1 - (6 - i - 5) % 2 = i by omega]; exact hp) (flap_put h (by omega) (by omega) _).1
 obtain ⟨v, hv, hle, hok⟩ := flap_draw hc (k := 6 - i) (by omega) (by omega) h A.1 A.2.1 (by rw [eA]; exact A.2.2)
 obtain ⟨s1, p1⟩ := SameBut.gap h (i := i) (k := 6 - i) (by omega) (by omega) (by omega) v
 obtain ⟨f1, g1⟩ := flap_put h (k := 6 - i) (by omega) (by omega) v
 rw [if_pos hok, hv]
 have eB : hL R.opn W ((d.put (meOf (6 - i)) v).put (meOf (8 - i)) (x.flap (8 - i))) (8 - i) = hL R.opn W x (8 - i) := hL_gap (by omega) (by omega) (by rw [(SameBut.gap s1.L (k := 8 - i) (by omega) (by omega) rfl _).2, p1, show 1 - (8 - i - 5) % 2 = i by omega]; exact hp) (flap_put s1.L (by omega) (by omega) _).1
 obtain ⟨u, hu, hle2, hok2⟩ := flap_draw hc (k := 8 - i) (by omega) (by omega) s1.L B.1 B.2.1 (by rw [eB]; exact B.2.2)
 obtain ⟨f2, g2⟩ := flap_put s1.L (k := 8 - i) (by omega) (by omega) u
 rw [if_pos hok2, hu]
 refine ⟨rfl, fun k h5 h8 e => ?_⟩
 have hk2 : k = 6 - i ∨ k = 8 - i := by omega
 rcases hk2 with rfl | rfl
 ·rw [g2 _ (by omega) (by omega) (by omega), f1]; exact hle
 ·rw [f2]; exact hle2

/-- The panels from long on: what is found. -/
theorem panelFrom_found {R : Rm} {W : Wi} {cl ch : Int} {i : Nat} (hi : i < 4) : ∀ (n : Nat) (long : Int) (d : Dr) (f : Nat), DrL d → f < 10 →
  (panelFrom R W cl ch i n long d f).2 ≤ 10 ∧ SameBut i d (panelFrom R W cl ch i n long d f).1 ∧
  ((panelFrom R W cl ch i n long d f).2 = 10 → (long ≤ (panelFrom R W cl ch i n long d f).1.p.getD i 0 ∧ (panelFrom R W cl ch i n long d f).1.p.getD i 0 < long + n) ∧ okAll (hL R.opn W (panelFrom R W cl ch i n long d f).1 i) cl ch = true ∧
   ∀ k, 5 ≤ k → k ≤ 8 → 1 - (k - 5) % 2 = i → FlapOk R W cl ch k (panelFrom R W cl ch i n long d f).1)
 | 0, long, d, f, h, hf => ⟨by simp only [panelFrom]; omega, ⟨h, fun _ _ => rfl, fun _ _ _ _ => rfl, rfl, rfl⟩, fun e => by simp only [panelFrom] at e; omega⟩
 | n + 1, long, d, f, h, hf => by
  have s1 := SameBut.pan (i := i) h long
  have e1 : (d.put (.pan i) long).p.getD i 0 = long := getD_set (by rw [h.p]; exact hi) long
  obtain ⟨s2, p2, fo⟩ := flaps_same R W cl ch (i := i) s1.L
  have hle := flaps_le R W cl ch i (d.put (.pan i) long)
  unfold panelFrom
  by_cases c1 : okAll (hL R.opn W (d.put (.pan i) long) i) cl ch = true
  ·rw [if_pos c1]
   by_cases c2 : max f (flapsD R W cl ch i (d.put (.pan i) long)).2 = 10
   ·rw [if_pos c2]
    refine ⟨Nat.le_refl _, s1.tr s2, fun _ => ⟨?_, ?_, fo (by omega)⟩⟩
    ·rw [p2, e1]; omega
    ·rw [hL_pan (d := d.put (.pan i) long) (e := (flapsD R W cl ch i (d.put (.pan i) long)).1) hi (by rw [p2])]; exact c1
   ·rw [if_neg c2]
    obtain ⟨a, b, c⟩ := panelFrom_found hi n (long + 1) (flapsD R W cl ch i (d.put (.pan i) long)).1 (max f (flapsD R W cl ch i (d.put (.pan i) long)).2) s2.L (by omega)
    refine ⟨a, (s1.tr s2).tr b, fun e => ?_⟩
    obtain ⟨c3, c4⟩ := c e
    exact ⟨by omega, c4⟩
  ·rw [if_neg c1]
   exact ⟨by simp only; omega, s1, fun e => by simp only at e; omega⟩

/-- The panels from long on, if one will do. -/
theorem panelFrom_least {R : Rm} {W : Wi} {cl ch : Int} (hc : cl ≤ ch) {i : Nat} (hi : i < 4) {x : Dr} (hx : DrL x) (hk : ∀ k, 5 ≤ k → k ≤ 8 → 1 - (k - 5) % 2 = i → FlapOk R W cl ch k x) : ∀ (n : Nat) (long : Int) (d : Dr) (f : Nat), DrL d → f < 10 → long ≤ x.p.getD i 0 → x.p.getD i 0 < long + n →
  (∀ L, long ≤ L → L ≤ x.p.getD i 0 → ∀ e : Dr, e.p.getD i 0 = L → okAll (hL R.opn W e i) cl ch = true) →
  (panelFrom R W cl ch i n long d f).2 = 10 ∧ (panelFrom R W cl ch i n long d f).1.p.getD i 0 ≤ x.p.getD i 0 ∧ ((panelFrom R W cl ch i n long d f).1.p.getD i 0 = x.p.getD i 0 → ∀ k, 5 ≤ k → k ≤ 8 → 1 - (k - 5) % 2 = i → (panelFrom R W cl ch i n long d f).1.flap k ≤ x.flap k)
 | 0, long, d, f, h, hf, h0, h1, _ => by omega
 | n + 1, long, d, f, h, hf, h0, h1, hok => by
  have s1 := SameBut.pan (i := i) h long
  have e1 : (d.put (.pan i) long).p.getD i 0 = long := getD_set (by rw [h.p]; exact hi) long
  obtain ⟨s2, p2, _⟩ := flaps_same R W cl ch (i := i) s1.L
  have hle := flaps_le R W cl ch i (d.put (.pan i) long)
  unfold panelFrom
  rw [if_pos (hok long (Int.le_refl _) h0 _ e1)]
  by_cases c2 : max f (flapsD R W cl ch i (d.put (.pan i) long)).2 = 10
  ·rw [if_pos c2]
   refine ⟨rfl, by rw [p2, e1]; exact h0, fun e => ?_⟩
   rw [p2, e1] at e
   exact (flaps_found hc s1.L hx (by rw [e1]; exact e) hk).2
  ·rw [if_neg c2]
   have hlt : long < x.p.getD i 0 := by
    rcases Int.lt_or_eq_of_le h0 with h0 | h0
    ·exact h0
    ·exact absurd (flaps_found hc s1.L hx (by rw [e1]; exact h0) hk).1 (by omega)
   exact panelFrom_least hc hi hx hk n (long + 1) (flapsD R W cl ch i (d.put (.pan i) long)).1 _ s2.L (by omega) (by omega) (by omega) (fun L hL hL2 e he => hok L (by omega) hL2 e he)

theorem panel_found {R : Rm} {W : Wi} {cl ch : Int} {i : Nat} (hi : i < 4) {d : Dr} (h : DrL d) : (panelD R W cl ch i d).2 ≤ 10 ∧ SameBut i d (panelD R W cl ch i d).1 ∧ ((panelD R W cl ch i d).2 = 10 → PanOk R W cl ch i (panelD R W cl ch i d).1) := by
 unfold panelD riseD
 obtain ⟨v, hv0, hv, hok, _⟩ := draw_is R.opn W cl ch (riseE ch) i (R.pn i) (.pan i) d
 have s1 := SameBut.pan (i := i) h v
 have e1 : (d.put (.pan i) v).p.getD i 0 = v := getD_set (by rw [h.p]; exact hi) v
 rw [hv]
 by_cases c : (drawD R.opn W cl ch (riseE ch) i (R.pn i) (.pan i) d).2 = true
 ·rw [if_pos c, e1]
  obtain ⟨a1, a2⟩ := hok.1 c
  obtain ⟨b1, b2, b3⟩ := panelFrom_found (R := R) (W := W) (cl := cl) (ch := ch) hi ((R.pn i).hi - v + 1).toNat v (d.put (.pan i) v) i s1.L (by omega)
  refine ⟨b1, s1.tr b2, fun e => ?_⟩
  obtain ⟨⟨c1, c2⟩, c3, c4⟩ := b3 e
  exact ⟨⟨by omega, by omega⟩, c3, c4⟩
 ·rw [if_neg c]
  exact ⟨by simp only; omega, s1, fun e => by simp only at e; omega⟩

theorem panel_least {R : Rm} {W : Wi} {cl ch : Int} (hc : cl ≤ ch) {i : Nat} (hi : i < 4) {d x : Dr} (h : DrL d) (hx : DrL x) (P : PanOk R W cl ch i x) :
  (panelD R W cl ch i d).2 = 10 ∧ (panelD R W cl ch i d).1.p.getD i 0 ≤ x.p.getD i 0 ∧ ((panelD R W cl ch i d).1.p.getD i 0 = x.p.getD i 0 → ∀ k, 5 ≤ k → k ≤ 8 → 1 - (k - 5) % 2 = i → (panelD R W cl ch i d).1.flap k ≤ x.flap k) := by
 obtain ⟨⟨x0, x1⟩, xo, xf⟩ := P
 unfold panelD riseD
 obtain ⟨v, hv0, hv, hok, hle, hen⟩ := draw_is R.opn W cl ch (riseE ch) i (R.pn i) (.pan i) d
 have s1 := SameBut.pan (i := i) h v
 have e1 : ∀ u, (d.put (.pan i) u).p.getD i 0 = u := fun u => getD_set (by rw [h.p]; exact hi) u
 have ex : hL R.opn W (d.put (.pan i) (x.p.getD i 0)) i = hL R.opn W x i := hL_pan hi (e1 _)
 rw [okAll_iff hc] at xo
 obtain ⟨a, b⟩ := hle _ x0 x1 (by simp only [riseE, decide_eq_true_eq]; rw [ex]; exact xo.2)
 have all : ∀ L, v ≤ L → L ≤ x.p.getD i 0 → ∀ e : Dr, e.p.getD i 0 = L → okAll (hL R.opn W e i) cl ch = true := by
  intro L l0 l1 e he
  rw [okAll_iff hc, hL_M, FL_pan _ _ hi, he]
  have q : ch ≤ (hL R.opn W (d.put (.pan i) v) i).hi := by simpa [riseE] using b
  rw [hL_M, FL_pan _ _ hi, e1] at q
  have r := xo.1
  rw [hL_M, FL_pan _ _ hi] at r
  exact ⟨Int.le_trans (holdM_mono (by omega)).1 r, Int.le_trans q (holdM_mono (by omega)).2⟩
 rw [hv, if_pos (hok.2 ⟨by omega, all v (Int.le_refl _) a _ (e1 v)⟩), e1]
 exact panelFrom_least hc hi hx xf _ v _ i s1.L (by omega) a (by omega) all

theorem panels_found {R : Rm} {W : Wi} {cl ch : Int} : ∀ n, n ≤ 4 → (panelsD R W cl ch n).2 ≤ 10 ∧ DrL (panelsD R W cl ch n).1 ∧ ((panelsD R W cl ch n).2 = 10 → ∀ i, i < n → PanOk R W cl ch i (panelsD R W cl ch n).1)
 | 0, _ => ⟨Nat.le_refl _, ⟨rfl, rfl, rfl⟩, fun _ i hi => absurd hi (Nat.not_lt_zero i)⟩
 | n + 1, hn => by
  obtain ⟨a, b, c⟩ := panels_found (R := R) (W := W) (cl := cl) (ch := ch) n (by omega)
  obtain ⟨p, q, r⟩ := panel_found (R := R) (W := W) (cl := cl) (ch := ch) (i := n) (by omega) b
  refine ⟨by simp only [panelsD]; omega, q.L, fun e i hi => ?_⟩
  simp only [panelsD] at e ⊢
  by_cases h : i = n
  ·subst h
   exact r (by omega)
  ·exact (c (by omega) i (by omega)).but (by omega) h q

/-- Panel by panel not greater. -/
def PanLe (i : Nat) (d x : Dr) : Prop := d.p.getD i 0 ≤ x.p.getD i 0 ∧ (d.p.getD i 0 = x.p.getD i 0 → ∀ k, 5 ≤ k → k ≤ 8 → 1 - (k - 5) % 2 = i → d.flap k ≤ x.flap k)

theorem PanLe.but {i j : Nat} {d e x : Dr} (h : PanLe i d x) (hne : i ≠ j) (s : SameBut j d e) : PanLe i e x := by
 obtain ⟨a, b⟩ := h
 refine ⟨by rw [s.p i hne]; exact a, fun q k h5 h8 hk => ?_⟩
 rw [s.p i hne] at q
 rw [s.f k h5 h8 (by omega)]
 exact b q k h5 h8 hk

theorem panels_least {R : Rm} {W : Wi} {cl ch : Int} (hc : cl ≤ ch) {x : Dr} (hx : DrL x) (P : ∀ i, i < 4 → PanOk R W cl ch i x) : ∀ n, n ≤ 4 → (panelsD R W cl ch n).2 = 10 ∧ ∀ i, i < n → PanLe i (panelsD R W cl ch n).1 x
 | 0, _ => ⟨rfl, fun i hi => absurd hi (Nat.not_lt_zero i)⟩
 | n + 1, hn => by
  obtain ⟨a, b⟩ := panels_least hc hx P n (by omega)
  obtain ⟨_, L, _⟩ := panels_found (R := R) (W := W) (cl := cl) (ch := ch) n (by omega)
  obtain ⟨_, q, _⟩ := panel_found (R := R) (W := W) (cl := cl) (ch := ch) (i := n) (by omega) L
  obtain ⟨p1, p2⟩ := panel_least (R := R) (W := W) hc (i := n) (by omega) L hx (P n (by omega))
  refine ⟨by simp only [panelsD]; omega, fun i hi => ?_⟩
  simp only [panelsD]
  by_cases h : i = n
  ·subst h; exact p2
  ·exact (b i (by omega)).but h q

theorem Fea.panOk {R : Rm} {W : Wi} {cl ch : Int} {x : Dr} (F : Fea R W cl ch x) (i : Nat) (hi : i < 4) : PanOk R W cl ch i x :=
 ⟨F.pan i hi, F.ok i (by omega), fun k h5 h8 _ => ⟨(F.flap k h5 h8).1, (F.flap k h5 h8).2, F.ok k (by omega)⟩⟩

theorem PanOk.put {R : Rm} {W : Wi} {cl ch : Int} {i : Nat} {d : Dr} (h : PanOk R W cl ch i d) (hi : i < 4) {m : Me} (hm : m = .hei ∨ m = .slo) (v : Int) : PanOk R W cl ch i (d.put m v) := by
 obtain ⟨a, b, c⟩ := h
 rcases hm with rfl | rfl
 ·exact ⟨a, by rw [hL_pan (d := d) (e := d.put .hei v) hi rfl]; exact b, fun k h5 h8 hk => (c k h5 h8 hk).as h5 h8 rfl rfl⟩
 ·exact ⟨a, by rw [hL_pan (d := d) (e := d.put .slo v) hi rfl]; exact b, fun k h5 h8 hk => (c k h5 h8 hk).as h5 h8 rfl rfl⟩

theorem hL_hei {opn : Bool} {W : Wi} {d e : Dr} (h : e.hei = d.hei) : hL opn W e 4 = hL opn W d 4 := by rw [hL_M, hL_M, FL_hei, FL_hei, h]

theorem hL_slo {opn : Bool} {W : Wi} {d e : Dr} (h : e.slo = d.slo) : hL opn W e 9 = hL opn W d 9 := by rw [hL_M, hL_M, FL_slo, FL_slo, h]

/-- If the search ends well, what it found lies in the room and closes with all calipers. -/
theorem small_closes {R : Rm} {W : Wi} {cl ch : Int} (h : (smallD R W cl ch).2 = 10) : DrL (smallD R W cl ch).1 ∧ Fea R W cl ch (smallD R W cl ch).1 := by
 obtain ⟨a, L, c⟩ := panels_found (R := R) (W := W) (cl := cl) (ch := ch) 4 (by omega)
 obtain ⟨v, hv0, hv, hok, _⟩ := draw_is R.opn W cl ch (riseE ch) 4 R.he .hei (panelsD R W cl ch 4).1
 have e1 : (heightD R W cl ch).1 = (panelsD R W cl ch 4).1.put .hei v := hv
 obtain ⟨u, hu0, hu, hok2, _⟩ := draw_is R.opn W cl ch (riseE ch) 9 R.sl .slo ((panelsD R W cl ch 4).1.put .hei v)
 have e2 : (slotD R W cl ch).1 = ((panelsD R W cl ch 4).1.put .hei v).put .slo u := by unfold slotD riseD; rw [e1]; exact hu
 have o1 : (heightD R W cl ch).2 = true ↔ v ≤ R.he.hi ∧ okAll (hL R.opn W ((panelsD R W cl ch 4).1.put .hei v) 4) cl ch = true := hok
 have o2 : (slotD R W cl ch).2 = true ↔ u ≤ R.sl.hi ∧ okAll (hL R.opn W (((panelsD R W cl ch 4).1.put .hei v).put .slo u) 9) cl ch = true := by unfold slotD riseD; rw [e1]; exact hok2
 unfold smallD at h ⊢
 simp only [failIf] at h
 rw [e2]
 have c2 : (slotD R W cl ch).2 = true := by
  rcases hb : (slotD R W cl ch).2 with _ | _
  ·rw [hb] at h; simp at h; omega
  ·rfl
 rw [if_pos c2] at h
 have c1 : (heightD R W cl ch).2 = true := by
  rcases hb : (heightD R W cl ch).2 with _ | _
  ·rw [hb] at h; simp at h; omega
  ·rfl
 rw [if_pos c1] at h
 have P := c h
 have P1 : ∀ i, i < 4 → PanOk R W cl ch i (((panelsD R W cl ch 4).1.put .hei v).put .slo u) := fun i hi => ((P i hi).put hi (.inl rfl) v).put hi (.inr rfl) u
 obtain ⟨a1, a2⟩ := o1.1 c1
 obtain ⟨b1, b2⟩ := o2.1 c2
 refine ⟨(L.put _ _).put _ _, ⟨fun i hi => (P1 i hi).1, fun k h5 h8 => ?_, ⟨hv0, a1⟩, ⟨hu0, b1⟩, fun k hk => ?_⟩⟩
 ·obtain ⟨f1, f2, _⟩ := (P1 (1 - (k - 5) % 2) (by omega)).2.2 k h5 h8 rfl
  exact ⟨f1, f2⟩
 ·rcases Nat.lt_or_ge k 4 with h4 | h4
  ·exact (P1 k h4).2.1
  ·by_cases e4 : k = 4
   ·subst e4
    rw [hL_hei (d := (panelsD R W cl ch 4).1.put .hei v) (e := ((panelsD R W cl ch 4).1.put .hei v).put .slo u) rfl]; exact a2
   ·by_cases e9 : k = 9
    ·subst e9; exact b2
    ·exact ((P1 (1 - (k - 5) % 2) (by omega)).2.2 k (by omega) (by omega) rfl).2.2

/-- If some blank in the room closes with all calipers, the search ends well, with one that is not greater. -/
theorem small_least {R : Rm} {W : Wi} {cl ch : Int} (hc : cl ≤ ch) {x : Dr} (hx : DrL x) (F : Fea R W cl ch x) :
  (smallD R W cl ch).2 = 10 ∧ (∀ i, i < 4 → PanLe i (smallD R W cl ch).1 x) ∧ (smallD R W cl ch).1.hei ≤ x.hei ∧ (smallD R W cl ch).1.slo ≤ x.slo := by
 obtain ⟨a, b⟩ := panels_least hc hx F.panOk 4 (by omega)
 obtain ⟨v, hv0, hv, hok, hle, _⟩ := draw_is R.opn W cl ch (riseE ch) 4 R.he .hei (panelsD R W cl ch 4).1
 have e1 : (heightD R W cl ch).1 = (panelsD R W cl ch 4).1.put .hei v := hv
 obtain ⟨u, hu0, hu, hok2, hle2, _⟩ := draw_is R.opn W cl ch (riseE ch) 9 R.sl .slo ((panelsD R W cl ch 4).1.put .hei v)
 have e2 : (slotD R W cl ch).1 = ((panelsD R W cl ch 4).1.put .hei v).put .slo u := by unfold slotD riseD; rw [e1]; exact hu
 have o1 : (heightD R W cl ch).2 = true ↔ v ≤ R.he.hi ∧ okAll (hL R.opn W ((panelsD R W cl ch 4).1.put .hei v) 4) cl ch = true := hok
 have o2 : (slotD R W cl ch).2 = true ↔ u ≤ R.sl.hi ∧ okAll (hL R.opn W (((panelsD R W cl ch 4).1.put .hei v).put .slo u) 9) cl ch = true := by unfold slotD riseD; rw [e1]; exact hok2
 have x4 := (okAll_iff hc).1 (F.ok 4 (by omega))
 have x9 := (okAll_iff hc).1 (F.ok 9 (by omega))
 obtain ⟨a1, a2⟩ := hle _ F.hei.1 F.hei.2 (by simp only [riseE, decide_eq_true_eq]; rw [hL_hei (d := x) (e := (panelsD R W cl ch 4).1.put .hei x.hei) rfl]; exact x4.2)
 obtain ⟨b1, b2⟩ := hle2 _ F.slo.1 F.slo.2 (by simp only [riseE, decide_eq_true_eq]; rw [hL_slo (d := x) (e := ((panelsD R W cl ch 4).1.put .hei v).put .slo x.slo) rfl]; exact x9.2)
 have c1 : (heightD R W cl ch).2 = true := by
  refine o1.2 ⟨Int.le_trans a1 F.hei.2, (okAll_iff hc).2 ⟨Int.le_trans ?_ x4.1, by simpa [riseE] using a2⟩⟩
  rw [hL_M, hL_M, FL_hei, FL_hei]
  exact (holdM_mono (by simp only [Dr.put]; omega)).1
 have c2 : (slotD R W cl ch).2 = true := by
  refine o2.2 ⟨Int.le_trans b1 F.slo.2, (okAll_iff hc).2 ⟨Int.le_trans ?_ x9.1, by simpa [riseE] using b2⟩⟩
  rw [hL_M, hL_M, FL_slo, FL_slo]
  exact (holdM_mono (by simp only [Dr.put]; omega)).1
 unfold smallD
 simp only [failIf, if_pos c1, if_pos c2]
 rw [e2]
 exact ⟨a, fun i hi => b i hi, a1, b1⟩

end Go.Proofs.Ytoihnilgmdcndaa

namespace Go.Proofs.Ytoihnilgmdcndaa
set_option linter.unusedVariables false
set_option linter.unusedSimpArgs false
open Go.RowKit

end Go.Proofs.Ytoihnilgmdcndaa

namespace Go.Proofs.Ytoihnilgmdcndaa
set_option linter.unusedVariables false
set_option linter.unusedSimpArgs false
open Go.RowKit

end Go.Proofs.Ytoihnilgmdcndaa

namespace Go.Proofs.Ytoihnilgmdcndaa
set_option linter.unusedVariables false
set_option linter.unusedSimpArgs false
open Go.RowKit

end Go.Proofs.Ytoihnilgmdcndaa

namespace Go.Proofs.Ytoihnilgmdcndaa
set_option linter.unusedVariables false
set_option linter.unusedSimpArgs false
open Go.RowKit

/-- A blank's numbers. -/
def drOf (p0 p1 p2 p3 t0 t1 s0 s1 hei slo : Int) : Dr := ⟨[p0, p1, p2, p3], [t0, t1], [s0, s1], hei, slo⟩

theorem drOf_L (p0 p1 p2 p3 t0 t1 s0 s1 hei slo : Int) : DrL (drOf p0 p1 p2 p3 t0 t1 s0 s1 hei slo) := ⟨rfl, rfl, rfl⟩

/-- Numbers of a valid blank, but for the tab. -/
def NumOk (p0 p1 p2 p3 t0 t1 s0 s1 hei slo : Int) (o : Bool) : Prop :=
 (1 ≤ p0 ∧ p0 ≤ 3000) ∧ (1 ≤ p1 ∧ p1 ≤ 3000) ∧ (1 ≤ p2 ∧ p2 ≤ 3000) ∧ (1 ≤ p3 ∧ p3 ≤ 3000) ∧ (0 ≤ t0 ∧ t0 ≤ 3000) ∧ (0 ≤ t1 ∧ t1 ≤ 3000) ∧ (0 ≤ s0 ∧ s0 ≤ 3000) ∧ (0 ≤ s1 ∧ s1 ≤ 3000) ∧ (1 ≤ hei ∧ hei ≤ 3000) ∧ (0 ≤ slo ∧ slo ≤ 20) ∧ (o = true → t0 = 0 ∧ t1 = 0)

theorem whole_pn (o : Bool) {i : Nat} (hi : i < 4) : (wholeR o).pn i = ⟨1, 3000⟩ := by
 match i, hi with
 | 0, _ => rfl
 | 1, _ => rfl
 | 2, _ => rfl
 | 3, _ => rfl

theorem whole_fl (o : Bool) {k : Nat} (h5 : 5 ≤ k) (h8 : k ≤ 8) : (wholeR o).fl k = if k < 7 ∧ o = true then ⟨0, 0⟩ else ⟨0, 3000⟩ := by
 have hk : k = 5 ∨ k = 6 ∨ k = 7 ∨ k = 8 := by omega
 rcases hk with rfl | rfl | rfl | rfl <;> cases o <;> rfl

/-- A valid blank that closes lies in the room of all blanks. -/
theorem fea_of {p0 p1 p2 p3 t0 t1 s0 s1 hei slo : Int} {o : Bool} {W : Wi} {cl ch : Int} (hc : cl ≤ ch) (N : NumOk p0 p1 p2 p3 t0 t1 s0 s1 hei slo o) (H : ∀ k, k < 10 → Holding (hL o W (drOf p0 p1 p2 p3 t0 t1 s0 s1 hei slo)) cl ch k) : Fea (wholeR o) W cl ch (drOf p0 p1 p2 p3 t0 t1 s0 s1 hei slo) := by
 obtain ⟨n0, n1, n2, n3, n4, n5, n6, n7, n8, n9, n10⟩ := N
 refine ⟨fun i hi => ?_, fun k h5 h8 => ?_, ?_, ?_, fun k hk => (okAll_iff hc).2 (H k hk)⟩
 ·rw [whole_pn o hi]
  match i, hi with
  | 0, _ => exact n0
  | 1, _ => exact n1
  | 2, _ => exact n2
  | 3, _ => exact n3
 ·rw [whole_fl o h5 h8]
  have hk : k = 5 ∨ k = 6 ∨ k = 7 ∨ k = 8 := by omega
  rcases hk with rfl | rfl | rfl | rfl
  ·cases o with
   | true => obtain ⟨rfl, rfl⟩ := n10 rfl; exact ⟨Int.le_refl _, Int.le_refl _⟩
   | false => exact n4
  ·cases o with
   | true => obtain ⟨rfl, rfl⟩ := n10 rfl; exact ⟨Int.le_refl _, Int.le_refl _⟩
   | false => exact n5
  ·cases o <;> exact n6
  ·cases o <;> exact n7
 ·exact n8
 ·exact n9

/-- What lies in the room of all blanks is valid. -/
theorem num_of {p0 p1 p2 p3 t0 t1 s0 s1 hei slo : Int} {o : Bool} {W : Wi} {cl ch : Int} (F : Fea (wholeR o) W cl ch (drOf p0 p1 p2 p3 t0 t1 s0 s1 hei slo)) : NumOk p0 p1 p2 p3 t0 t1 s0 s1 hei slo o := by
 have q0 := F.pan 0 (by omega)
 have q1 := F.pan 1 (by omega)
 have q2 := F.pan 2 (by omega)
 have q3 := F.pan 3 (by omega)
 rw [whole_pn o (by omega)] at q0 q1 q2 q3
 have f5 := F.flap 5 (by omega) (by omega)
 have f6 := F.flap 6 (by omega) (by omega)
 have f7 := F.flap 7 (by omega) (by omega)
 have f8 := F.flap 8 (by omega) (by omega)
 rw [whole_fl o (by omega) (by omega)] at f5 f6 f7 f8
 have h5 : (drOf p0 p1 p2 p3 t0 t1 s0 s1 hei slo).flap 5 = t0 := rfl
 have h6 : (drOf p0 p1 p2 p3 t0 t1 s0 s1 hei slo).flap 6 = t1 := rfl
 have h7 : (drOf p0 p1 p2 p3 t0 t1 s0 s1 hei slo).flap 7 = s0 := rfl
 have h8 : (drOf p0 p1 p2 p3 t0 t1 s0 s1 hei slo).flap 8 = s1 := rfl
 rw [h5] at f5
 rw [h6] at f6
 rw [h7] at f7
 rw [h8] at f8
 cases o with
 | true =>
  simp at f5 f6 f7 f8
  exact ⟨q0, q1, q2, q3, by omega, by omega, f7, f8, F.hei, F.slo, fun _ => by omega⟩
 | false =>
  simp at f5 f6 f7 f8
  exact ⟨q0, q1, q2, q3, f5, f6, f7, f8, F.hei, F.slo, fun h => by cases h⟩

/-- With fewer calipers what closes closes. -/
theorem Fea.fewer {R : Rm} {W : Wi} {cl ch c d : Int} {x : Dr} (F : Fea R W cl ch x) (h0 : cl ≤ c) (h1 : c ≤ d) (h2 : d ≤ ch) : Fea R W c d x :=
 ⟨F.pan, F.flap, F.hei, F.slo, fun k hk => by
  have := (okAll_iff (show cl ≤ ch by omega)).1 (F.ok k hk)
  exact (okAll_iff h1).2 ⟨by omega, by omega⟩⟩

end Go.Proofs.Ytoihnilgmdcndaa

namespace Go.Proofs.Ytoihnilgmdcndaa
set_option linter.unusedVariables false
set_option linter.unusedSimpArgs false
open Go.RowKit

/-- What the measure of check k is while no caliper is lost. -/
def flatN (p0 p1 p2 p3 t0 t1 s0 s1 hei : Int) (k : Nat) : Int :=
 match k with
 | 0 => 1000 * p0
 | 1 => 1000 * p1
 | 2 => 1000 * p2
 | 3 => 1000 * p3
 | 4 => 1000 * hei
 | 5 => 1000 * p1 - 2000 * t0
 | 6 => 1000 * p0 - 2000 * t1
 | 7 => 1000 * p1 - 2000 * s0
 | 8 => 1000 * p0 - 2000 * s1
 | _ => 9000

theorem flat4 {p0 p1 p2 p3 t0 t1 s0 s1 hei : Int} {o : Bool} (h : Blank4 p0 p1 p2 p3 t0 t1 s0 s1 hei o) {k : Nat} (hk : k < 10) :
  flatS 0 hei 9 [p0, p1, p2, p3] [t0, t1] [s0, s1] o k = ⟨flatN p0 p1 p2 p3 t0 t1 s0 s1 hei k, flatN p0 p1 p2 p3 t0 t1 s0 s1 hei k⟩ := by
 obtain ⟨h0, h1, h2, h3, h4, h5, h6, h7, h8, h9⟩ := h
 match k, hk with
 | 0, _ => simp [flatS, flatAt, flatN, nearL]; omega
 | 1, _ => simp [flatS, flatAt, flatN, nearL]; omega
 | 2, _ => simp [flatS, flatAt, flatN, nearL]; omega
 | 3, _ => simp [flatS, flatAt, flatN, nearL]; omega
 | 4, _ => simp [flatS, flatAt, flatN, nearL]; omega
 | 5, _ =>
  cases o with
  | true => obtain ⟨rfl, rfl⟩ := h9 rfl; simp [flatS, flatAt, flatN, nearL, gapS, flapS]; omega
  | false => simp [flatS, flatAt, flatN, nearL, gapS, flapS]; omega
 | 6, _ =>
  cases o with
  | true => obtain ⟨rfl, rfl⟩ := h9 rfl; simp [flatS, flatAt, flatN, nearL, gapS, flapS]; omega
  | false => simp [flatS, flatAt, flatN, nearL, gapS, flapS]; omega
 | 7, _ => simp [flatS, flatAt, flatN, nearL, gapS, flapS]; omega
 | 8, _ => simp [flatS, flatAt, flatN, nearL, gapS, flapS]; omega
 | 9, _ => simp [flatS, flatAt, flatN, nearL]; decide

theorem tdiv_le {x c l : Int} (hl : l = 1 ∨ l = 2) (hc : 0 ≤ c) (h : x ≤ l * c) : x.tdiv l ≤ c := by
 rcases hl with rfl | rfl
 ·simp only [Int.tdiv_one]; omega
 ·rcases Int.le_total 0 x with h0 | h0
  ·rw [Int.tdiv_eq_ediv_of_nonneg h0]; omega
  ·have e : x.tdiv 2 = -((-x).tdiv 2) := by rw [Int.neg_tdiv, Int.neg_neg]
   rw [e, Int.tdiv_eq_ediv_of_nonneg (by omega)]; omega

theorem tdiv_ge {x c l : Int} (hl : l = 1 ∨ l = 2) (hc : 0 ≤ c) (h : l * c ≤ x) : c ≤ x.tdiv l := by
 rcases hl with rfl | rfl
 ·simp only [Int.tdiv_one]; omega
 ·rw [Int.tdiv_eq_ediv_of_nonneg (by omega)]; omega

theorem hold4 {p0 p1 p2 p3 t0 t1 s0 s1 hei : Int} {o : Bool} (h : Blank4 p0 p1 p2 p3 t0 t1 s0 s1 hei o) {cl ch : Int} (c : Cal2 cl ch) {ll lh wl wh hl hh ol oh il ih : Int} {k : Nat} (hk : k < 10)
  (h0 : (o = true ∧ (k = 5 ∨ k = 6)) ∨ ((inS ll lh wl wh hl hh ol oh il ih k).lo ≤ flatN p0 p1 p2 p3 t0 t1 s0 s1 hei k - lostL k o * ch ∧ flatN p0 p1 p2 p3 t0 t1 s0 s1 hei k - lostL k o * cl ≤ (inS ll lh wl wh hl hh ol oh il ih k).hi)) :
  Holding (holdL 0 hei 9 [p0, p1, p2, p3] [t0, t1] [s0, s1] o ll lh wl wh hl hh ol oh il ih o) cl ch k := by
 obtain ⟨c0, c1, c2⟩ := c
 unfold Holding holdL
 rw [flat4 h hk, Bool.or_self]
 by_cases h5 : o = true ∧ (k = 5 ∨ k = 6)
 ·rw [if_pos h5, if_neg (by simp)]
  exact ⟨c0, c2⟩
 ·rw [if_neg h5]
  rcases h0 with h0 | ⟨a, b⟩
  ·exact absurd h0 h5
  have q0 := tdiv_le (lostL_12 k o) (x := flatN p0 p1 p2 p3 t0 t1 s0 s1 hei k - (inS ll lh wl wh hl hh ol oh il ih k).hi) (c := cl) (by omega) (by omega)
  have q1 := tdiv_ge (lostL_12 k o) (x := flatN p0 p1 p2 p3 t0 t1 s0 s1 hei k - (inS ll lh wl wh hl hh ol oh il ih k).lo) (c := ch) (by omega) (by omega)
  exact ⟨by simp only; omega, by simp only; omega⟩

theorem calTo_all {H : Nat → Sp} {cl ch : Int} (c0 : 1 ≤ cl) (c1 : ch ≤ 10000) : ∀ n, (∀ k, k < n → Holding H cl ch k) → (calTo H n).lo ≤ cl ∧ ch ≤ (calTo H n).hi
 | 0, _ => ⟨c0, c1⟩
 | n + 1, h => by
  obtain ⟨a, b⟩ := calTo_all c0 c1 n (fun k hk => h k (by omega))
  obtain ⟨d, e⟩ := h n (by omega)
  simp only [calTo]
  omega

/-- What is known of a blank and the wish around it: all checks but those of panels that are longer hold with all calipers. -/
theorem folds_at {p0 p1 p2 p3 t0 t1 s0 s1 hei : Int} {o : Bool} (h : Sheet4 p0 p1 p0 p1 t0 t1 s0 s1 hei o) (b2 : 1 ≤ p2 ∧ p2 ≤ 3000) (b3 : 1 ≤ p3 ∧ p3 ≤ 3000) (ht : o = true ∨ (t0 = s0 ∧ t1 = s1)) {cl ch : Int} (c : Cal4 cl ch) {w0 w1 w2 w3 w4 : Int} (hw : Wide w0 w1 w2 w3 w4) {k : Nat} (hk : k < 10) (h2 : k = 2 → p2 = p0) (h3 : k = 3 → p3 = p1) :
  Holding (holdW p0 p1 p2 p3 t0 t1 s0 s1 hei o (wishOf p0 p1 s0 s1 hei o cl ch w0 w1 w2 w3 w4)) cl ch k := by
 obtain ⟨⟨a0, _⟩, ⟨a1, _⟩, ⟨a2, _⟩, ⟨a3, _⟩, ⟨a4, _⟩⟩ := hw
 obtain ⟨c0, c1, c2⟩ := c
 obtain ⟨g0, g1, g2, g3, g4, g5, g6, g7, g8, g9⟩ := h
 refine hold4 (p0 := p0) (p1 := p1) (p2 := p2) (p3 := p3) (t0 := t0) (t1 := t1) (s0 := s0) (s1 := s1) (hei := hei) (o := o) ⟨by omega, by omega, b2, b3, by omega, by omega, by omega, by omega, by omega, g9⟩ ⟨by omega, by omega, by omega⟩ hk ?_
 have e4 : ∀ j : Nat, j ≠ 4 → lostL (j : Int) o = 1 := fun j hj => by unfold lostL; rw [if_neg (by omega)]
 have e5 : micH hei o ch = 1000 * hei - lostL 4 o * ch := micH_eq hei o ch
 have e6 : micH hei o cl = 1000 * hei - lostL 4 o * cl := micH_eq hei o cl
 have e7 : 0 ≤ micH hei o ch ∧ micH hei o cl ≤ 3000000 := by cases o <;> simp [micH] <;> omega
 match k, hk with
 | 0, _ =>
  refine .inr ?_
  rw [e4 0 (by decide)]
  have q0 := arL_le (n := 1000 * p0 - ch) (most := 3000) a0 (least := 0) (by omega)
  have q1 := arH_ge (n := 1000 * p0 - cl) (least := 0) a0 (most := 3000) (by omega)
  simp only [inS, wishOf, flatN, true_or, if_true]
  omega
 | 1, _ =>
  refine .inr ?_
  rw [e4 1 (by decide)]
  have q0 := arL_le (n := 1000 * p1 - ch) (most := 3000) a1 (least := 0) (by omega)
  have q1 := arH_ge (n := 1000 * p1 - cl) (least := 0) a1 (most := 3000) (by omega)
  simp [inS, wishOf, flatN]
  omega
 | 2, _ =>
  refine .inr ?_
  rw [e4 2 (by decide)]
  obtain rfl : p0 = p2 := (h2 rfl).symm
  have q0 := arL_le (n := 1000 * p0 - ch) (most := 3000) a0 (least := 0) (by omega)
  have q1 := arH_ge (n := 1000 * p0 - cl) (least := 0) a0 (most := 3000) (by omega)
  simp [inS, wishOf, flatN]
  omega
 | 3, _ =>
  refine .inr ?_
  rw [e4 3 (by decide)]
  obtain rfl : p1 = p3 := (h3 rfl).symm
  have q0 := arL_le (n := 1000 * p1 - ch) (most := 3000) a1 (least := 0) (by omega)
  have q1 := arH_ge (n := 1000 * p1 - cl) (least := 0) a1 (most := 3000) (by omega)
  simp [inS, wishOf, flatN]
  omega
 | 4, _ =>
  refine .inr ?_
  have q0 := arL_le (n := micH hei o ch) (most := 3000) a2 (least := 0) (by omega)
  have q1 := arH_ge (n := micH hei o cl) (least := 0) a2 (most := 3000) (by omega)
  simp [inS, wishOf, flatN]
  omega
 | 5, _ =>
  rcases ht with ht | ⟨rfl, rfl⟩
  ·exact .inl ⟨ht, .inl rfl⟩
  refine .inr ?_
  rw [e4 5 (by decide)]
  have q0 := arL_le (n := 1000 * p1 - ch - 2000 * t0) (most := 3000) a3 (least := -3000) (by omega)
  have q1 := arH_ge (n := 1000 * p1 - cl - 2000 * t0) (least := -3000) a3 (most := 3000) (by omega)
  simp [inS, wishOf, flatN]
  omega
 | 6, _ =>
  rcases ht with ht | ⟨rfl, rfl⟩
  ·exact .inl ⟨ht, .inr rfl⟩
  refine .inr ?_
  rw [e4 6 (by decide)]
  have q0 := arL_le (n := 1000 * p0 - ch - 2000 * t1) (most := 3000) a4 (least := -3000) (by omega)
  have q1 := arH_ge (n := 1000 * p0 - cl - 2000 * t1) (least := -3000) a4 (most := 3000) (by omega)
  simp [inS, wishOf, flatN]
  omega
 | 7, _ =>
  refine .inr ?_
  rw [e4 7 (by decide)]
  have q0 := arL_le (n := 1000 * p1 - ch - 2000 * s0) (most := 3000) a3 (least := -3000) (by omega)
  have q1 := arH_ge (n := 1000 * p1 - cl - 2000 * s0) (least := -3000) a3 (most := 3000) (by omega)
  simp [inS, wishOf, flatN]
  omega
 | 8, _ =>
  refine .inr ?_
  rw [e4 8 (by decide)]
  have q0 := arL_le (n := 1000 * p0 - ch - 2000 * s1) (most := 3000) a4 (least := -3000) (by omega)
  have q1 := arH_ge (n := 1000 * p0 - cl - 2000 * s1) (least := -3000) a4 (most := 3000) (by omega)
  simp [inS, wishOf, flatN]
  omega
 | 9, _ =>
  refine .inr ?_
  rw [e4 9 (by decide)]
  simp [inS, flatN]
  omega

/-- It closes. -/
theorem folds_close {p0 p1 t0 t1 s0 s1 hei : Int} {o : Bool} (h : Sheet4 p0 p1 p0 p1 t0 t1 s0 s1 hei o) (ht : o = true ∨ (t0 = s0 ∧ t1 = s1)) {cl ch : Int} (c : Cal4 cl ch) {w0 w1 w2 w3 w4 : Int} (hw : Wide w0 w1 w2 w3 w4) :
  badL cl ch (holdW p0 p1 p0 p1 t0 t1 s0 s1 hei o (wishOf p0 p1 s0 s1 hei o cl ch w0 w1 w2 w3 w4)) 10 = [] ∧ (calTo (holdW p0 p1 p0 p1 t0 t1 s0 s1 hei o (wishOf p0 p1 s0 s1 hei o cl ch w0 w1 w2 w3 w4)) 10).lo ≤ cl ∧ ch ≤ (calTo (holdW p0 p1 p0 p1 t0 t1 s0 s1 hei o (wishOf p0 p1 s0 s1 hei o cl ch w0 w1 w2 w3 w4)) 10).hi :=
 have H : ∀ k, k < 10 → Holding (holdW p0 p1 p0 p1 t0 t1 s0 s1 hei o (wishOf p0 p1 s0 s1 hei o cl ch w0 w1 w2 w3 w4)) cl ch k := fun k hk => folds_at h (by have := h.1; omega) (by have := h.2.1; omega) ht c hw hk (fun _ => rfl) (fun _ => rfl)
 ⟨badL_none c.2.1 10 H, calTo_all (by have := c.1; omega) (by have := c.2.2; omega) 10 H⟩

end Go.Proofs.Ytoihnilgmdcndaa

namespace Go.Proofs.Ytoihnilgmdcndaa
set_option linter.unusedVariables false
set_option linter.unusedSimpArgs false
open Go.RowKit

/-- An inner measure or a gap with a caliper. -/
def micN (p0 p1 p2 p3 t0 t1 s0 s1 hei : Int) (o : Bool) (c : Int) (k : Nat) : Int := flatN p0 p1 p2 p3 t0 t1 s0 s1 hei k - lostL k o * c

theorem micros4_any (p0 p1 p2 p3 t0 t1 s0 s1 hei : Int) (o : Bool) (c : Int) (h : Blank4 p0 p1 p2 p3 t0 t1 s0 s1 hei o) (c0 : 0 ≤ c) (c1 : c ≤ 10000) (pa ta ba : Option Addr) (pc tc bc : Nat) (w : World) (hp : IRow w pa [p0, p1, p2, p3]) (ht : IRow w ta [t0, t1]) (hb : IRow w ba [s0, s1]) :
    Calls Try.prog 44 #[.agg #[.int .i64 30, .slice pa 4 pc, .int .i64 hei, .slice ta 2 tc, .slice ba 2 bc, .int .i64 9, .bool o], .int .i64 c] w fun e w' => e = .returned (.agg #[.int .i64 (micN p0 p1 p2 p3 t0 t1 s0 s1 hei o c 0), .int .i64 (micN p0 p1 p2 p3 t0 t1 s0 s1 hei o c 1), .int .i64 (micN p0 p1 p2 p3 t0 t1 s0 s1 hei o c 2), .int .i64 (micN p0 p1 p2 p3 t0 t1 s0 s1 hei o c 3), .int .i64 (micN p0 p1 p2 p3 t0 t1 s0 s1 hei o c 4), .int .i64 (micN p0 p1 p2 p3 t0 t1 s0 s1 hei o c 5), .int .i64 (micN p0 p1 p2 p3 t0 t1 s0 s1 hei o c 6), .int .i64 (micN p0 p1 p2 p3 t0 t1 s0 s1 hei o c 7), .int .i64 (micN p0 p1 p2 p3 t0 t1 s0 s1 hei o c 8)]) ∧ Gr w w' := by
  refine (micros_any 30 hei 9 p0 p1 p2 p3 t0 t1 s0 s1 pa ta ba pc tc bc o c ?_ w hp ht hb).mono ?_
  · obtain ⟨h0, h1, h2, h3, h4, h5, h6, h7, h8, h9⟩ := h
    simp only [inB, in1, List.all_cons, List.all_nil, Bool.and_true, Bool.and_eq_true, decide_eq_true_eq]
    omega
  · rintro e w' ⟨rfl, g⟩
    refine ⟨?_, g⟩
    have e4 : ∀ j : Nat, j ≠ 4 → lostL (j : Int) o = 1 := fun j hj => by unfold lostL; rw [if_neg (by omega)]
    have q : ∀ j : Nat, j ≠ 4 → micN p0 p1 p2 p3 t0 t1 s0 s1 hei o c j = flatN p0 p1 p2 p3 t0 t1 s0 s1 hei j - c := fun j hj => by unfold micN; rw [e4 j hj, Int.one_mul]
    rw [q 0 (by decide), q 1 (by decide), q 2 (by decide), q 3 (by decide), q 5 (by decide), q 6 (by decide), q 7 (by decide), q 8 (by decide), show micN p0 p1 p2 p3 t0 t1 s0 s1 hei o c 4 = micH hei o c from (micH_eq hei o c).symm]
    simp only [flatN]
    rw [show 1000 * p1 - c - 2000 * t0 = 1000 * p1 - 2000 * t0 - c by omega, show 1000 * p0 - c - 2000 * t1 = 1000 * p0 - 2000 * t1 - c by omega, show 1000 * p1 - c - 2000 * s0 = 1000 * p1 - 2000 * s0 - c by omega, show 1000 * p0 - c - 2000 * s1 = 1000 * p0 - 2000 * s1 - c by omega]

/-- own, with its rows in blocks of their own. -/
def OwnAll (p0 p1 p2 p3 t0 t1 s0 s1 hei : Int) (o : Bool) (w : World) (e : Ending) (w' : World) : Prop :=
  ∃ r3 c3 r7 c7 r11 c11, e = .returned (.agg #[.int .i64 30, .slice (some ⟨r3, 0, none⟩) 4 c3, .int .i64 hei, .slice (some ⟨r7, 0, none⟩) 2 c7, .slice (some ⟨r11, 0, none⟩) 2 c11, .int .i64 9, .bool o]) ∧ Gr w w' ∧ (Own w' r3 [.int .i64 p0, .int .i64 p1, .int .i64 p2, .int .i64 p3] ∧ Own w' r7 [.int .i64 t0, .int .i64 t1] ∧ Own w' r11 [.int .i64 s0, .int .i64 s1]) ∧ (w.heap.size ≤ r3 ∧ w.heap.size ≤ r7 ∧ w.heap.size ≤ r11) ∧ r3 ≠ r7 ∧ r3 ≠ r11 ∧ r7 ≠ r11

theorem ownAll_any (p0 p1 p2 p3 t0 t1 s0 s1 hei : Int) (o : Bool) (pa ta ba : Option Addr) (pc tc bc : Nat) (w : World) (hp : IRow w pa [p0, p1, p2, p3]) (ht : IRow w ta [t0, t1]) (hb : IRow w ba [s0, s1]) :
    Calls Try.prog 16 #[.agg #[.int .i64 30, .slice pa 4 pc, .int .i64 hei, .slice ta 2 tc, .slice ba 2 bc, .int .i64 9, .bool o]] w (OwnAll p0 p1 p2 p3 t0 t1 s0 s1 hei o w) := by
  refine (own02_own 30 hei 9 [p0, p1, p2, p3] [t0, t1] [s0, s1] pa ta ba pc tc bc o (by simp) (by simp) (by simp) w hp ht hb).mono ?_
  rintro e w' ⟨r3, c3, r7, c7, r11, c11, he, g, o3, o7, o11, l, n⟩
  exact ⟨r3, c3, r7, c7, r11, c11, he, g, ⟨o3, o7, o11⟩, l, n⟩

end Go.Proofs.Ytoihnilgmdcndaa
