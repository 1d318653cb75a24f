/- Contracts of slices.Max and of Size. A region that draws its order: many operations that only read, one operation that does not wait for them (an allocation), then stores: one walk of the reads serves every order. score.Calipers and score.Scores in general. (Made by gen_s29.py.) Contracts of pubMade, pubSingle, pubDouble. Contract of pubOwn: a copy of a store. Contract of pubStore. score.May in general. (Made by gen_s28.py.) The helpers of chapter 2's statements: span, wish, box, Ints, Same. (Made by gen_s30.py.) Contracts of slices.Values, AppendSeq, Collect, on ints. Contracts of slices.Values, Collect, Sort, Sorted, on ints. Contract of fits: whether a thing fits into the sheet's box. Contract of Holds, of a valid blank and a thing. Contract of pubBox. What a region of calls and allocations leaves, whatever the order: rows that lie apart from the new variables. Contract of Play of two valid blanks. (Made by gen_play.py.) The document's examples of chapter 2, call by call. The document's examples of chapter 2: known returns true. (Made by gen_s32.py.) -/
import Derived.Test.YtoihnilgmdcndaaQS32b
import Derived.Test.YtoihnilgmdcndaaQS32a
import Derived.BigQuiet
import Derived.Test.YtoihnilgmdcndaaQS32c
import Derived.Deep.AppendLies
import Derived.Deep.RegionHeld3
import Derived.Deep.QuietTactic
import Derived.Deep.CutRange
import Derived.Deep.DeepCutAuto
import Derived.RangeFuncBox
import Derived.RangeFuncWrites
import Derived.RangeFuncLeaves
import Derived.RangeFuncCalls
import Derived.Maps.AppendAt
import Derived.Shelf.Abstract
import Derived.OwnWalkIn
import Derived.TacticsInMore
import Derived.LoopNIn
import Derived.LoopIn
import Derived.Test.YtoihnilgmdcndaaShelf
import Derived.Sort.OwnSortedInts
import Derived.Deep.MidRow
namespace Go.Proofs.Ytoihnilgmdcndaa
set_option linter.unusedVariables false
set_option linter.unusedSimpArgs false
open Go.RowKit

theorem mul_bdS {a b A B : Int} (a0 : 0 ≤ a) (a1 : a ≤ A) (b0 : 0 ≤ b) (b1 : b ≤ B) : 0 ≤ a * b ∧ a * b ≤ A * B :=
  ⟨Int.mul_nonneg a0 b0, Int.mul_le_mul a1 b1 b0 (by omega)⟩

def maxTo (l : List Int) (k : Nat) : Int := (l.take k).foldl max (l.getD 0 0)

def maxL (l : List Int) : Int := maxTo l l.length

theorem maxTo_succ {l : List Int} {k : Nat} {x : Int} (hx : l[k]? = some x) : maxTo l (k + 1) = max (maxTo l k) x := by
  unfold maxTo
  rw [List.take_add_one, hx]
  simp

theorem maxTo_one {l : List Int} {x : Int} (hx : l[0]? = some x) : maxTo l 1 = x := by
  rw [maxTo_succ hx]
  simp [maxTo, hx]

set_option maxHeartbeats 1000000 in
theorem max_any (l : List Int) (h0 : 0 < l.length) (a : Option Addr) (cap : Nat) (w : World) (hr : IRow w a l) :
    Calls Try.prog 64 #[.slice a l.length cap] w fun e w' => e = .returned (.int .i64 (maxL l)) ∧ w = w' := by
  have hm := hr.1
  obtain ⟨x0, hx0⟩ := get_of_lt h0
  obtain ⟨b0, off, rfl, hb, hc⟩ := hr.get hx0
  have H1 := Lib.hid (maxTo_one hx0)
  have HM := Lib.hid (show maxL l = maxTo l l.length from rfl)
  have hl1 : decide ((l.length : Int) < 1) = false := by simp; omega
  have hl2 : (0 : Int) < l.length := by omega
  clear hx0
  simp only [Nat.add_zero] at hc
  go_enter Try.func64, Try.ntmps64
  go_wp2
  clear hl1
  go_loop [3, 4] (fun m i => ∃ k : Nat, 1 ≤ k ∧ k ≤ l.length ∧ i = .int .i64 k ∧ m = .int .i64 (maxTo l k)) (fun m i => l.length - (intOf i).toNat)
  case atStart => exact ⟨1, Nat.le_refl _, h0, rfl, by rw [H1.out]⟩
  case round =>
    obtain ⟨k, hk1, hk, rfl, rfl⟩ := hrel
    by_cases hlt : k < l.length
    · obtain ⟨x, hx⟩ := get_of_lt hlt
      obtain ⟨b1, off1, he, hb1, hc1⟩ := hr.get hx
      injection he with he
      injection he with he1 he2
      subst he1
      subst he2
      have HS := Lib.hid (maxTo_succ hx)
      clear hx
      by_cases hm2 : maxTo l k < x
      · go_wp2
        all_goals
          go_round
          case rel => exact ⟨k + 1, by omega, by omega, by go_num, by rw [HS.out] <;> (congr 1 <;> omega)⟩
          case measure => simp [intOf]; omega
      · go_wp2
        all_goals
          go_round
          case rel => exact ⟨k + 1, by omega, by omega, by go_num, by rw [HS.out] <;> (congr 1 <;> omega)⟩
          case measure => simp [intOf]; omega
    · obtain rfl : k = l.length := by omega
      go_wp2
      go_ret
      exact ⟨ret_int HM.out.symm, rfl⟩

theorem maxTo_bd {l : List Int} (h : inB 0 3000 l = true) : ∀ k, 1 ≤ k → k ≤ l.length → 0 ≤ maxTo l k ∧ maxTo l k ≤ 3000
  | 0, h1, _ => absurd h1 (by decide)
  | 1, _, hk => by
    obtain ⟨x, hx⟩ := get_of_lt (show 0 < l.length by omega)
    rw [maxTo_one hx]
    exact in_at h hx
  | k + 2, _, hk => by
    obtain ⟨x, hx⟩ := get_of_lt (show k + 1 < l.length by omega)
    obtain ⟨a, b⟩ := maxTo_bd h (k + 1) (by omega) (by omega)
    obtain ⟨c, d⟩ := in_at h hx
    rw [maxTo_succ hx]
    omega

theorem maxL_bd {l : List Int} (h : inB 0 3000 l = true) (h0 : 0 < l.length) : 0 ≤ maxL l ∧ maxL l ≤ 3000 := maxTo_bd h _ h0 (Nat.le_refl _)

def sumTo (s : Int) (l : List Int) (k : Nat) : Int := (l.take k).foldl (· + ·) s

theorem sumTo_succ {s : Int} {l : List Int} {k : Nat} {x : Int} (hx : l[k]? = some x) : sumTo s l (k + 1) = sumTo s l k + x := by
  unfold sumTo
  rw [List.take_add_one, hx]
  simp

theorem sumTo_bd {s : Int} {l : List Int} (hs : 0 ≤ s ∧ s ≤ 100) (h : inB 1 3000 l = true) : ∀ k : Nat, k ≤ l.length → 0 ≤ sumTo s l k ∧ sumTo s l k ≤ 100 + 3000 * k
  | 0, _ => by simpa [sumTo] using hs
  | k + 1, hk => by
    obtain ⟨x, hx⟩ := get_of_lt (show k < l.length by omega)
    obtain ⟨a, b⟩ := sumTo_bd hs h k (by omega)
    obtain ⟨c, d⟩ := in_at h hx
    rw [sumTo_succ hx]
    omega

def acrossL (tab : Int) (pan : List Int) : Int := sumTo tab pan pan.length

def alongL (hei : Int) (top bot : List Int) : Int := maxL top + hei + maxL bot

set_option maxRecDepth 100000 in
set_option maxHeartbeats 2000000 in
theorem size_ok (tab hei slo : Int) (pan top bot : List Int) (pa ta ba : Option Addr) (pc tc bc : Nat) (opn : Bool) (G : GoodB tab hei slo pan top bot opn) (w : World) (hp : IRow w pa pan) (ht : IRow w ta top) (hb : IRow w ba bot) :
    Calls Try.prog 18 #[.agg #[.int .i64 tab, .slice pa pan.length pc, .int .i64 hei, .slice ta top.length tc, .slice ba bot.length bc, .int .i64 slo, .bool opn]] w fun e w' => e = .returned (.tuple #[.int .i64 (acrossL tab pan), .int .i64 (alongL hei top bot), .int .i64 (acrossL tab pan * alongL hei top bot), .int .i64 0]) ∧ Gr w w' := by
  have gg := Gr.al w (.cells #[.int .i64 tab, .slice pa pan.length pc, .int .i64 hei, .slice ta top.length tc, .slice ba bot.length bc, .int .i64 slo, .bool opn] 24)
  have hB := Box.new w [.int .i64 tab, .slice pa pan.length pc, .int .i64 hei, .slice ta top.length tc, .slice ba bot.length bc, .int .i64 slo, .bool opn] 24 w.heap.size rfl
  have HG := Lib.hid G
  have hs := in_one G.gtab
  have hh := in_one G.ghei
  obtain ⟨hh0, hh1⟩ := hh
  have HB := Lib.hid (sumTo_bd hs G.gpan)
  have l4 := G.l4
  have hl4 : pan.length ≤ 4 := by omega
  obtain ⟨m0, m1⟩ := maxL_bd G.gtop (by rw [G.t2]; omega)
  obtain ⟨m2, m3⟩ := maxL_bd G.gbot (by rw [G.b2]; omega)
  clear l4 hs G
  have hp1 := hp.grow gg
  have ht1 := ht.grow gg
  have hb1 := hb.grow gg
  go_enter Try.func18, Try.ntmps18
  go_wp2_with fail
  refine (checkB_ok _ _ _ _ _ _ _ _ _ _ _ _ _ HG.out _ hp1 ht1 hb1).mono ?_
  rintro e w1 ⟨rfl, hx⟩
  have g1 := gg.tr hx
  have B1 := hB.keep hx
  clear hp1 ht1 hb1 hx gg hB
  obtain ⟨e0, e1, e2, e3, e4, e5, e6⟩ := B1.c7
  have hp1 := hp.grow g1
  go_wp2
  go_loop [19, 2] (fun i s => ∃ k : Nat, k ≤ pan.length ∧ i = .int .i64 k ∧ s = .int .i64 (sumTo tab pan k)) (fun i s => pan.length - (intOf i).toNat)
  case atStart => exact ⟨0, Nat.zero_le _, rfl, rfl⟩
  case round =>
    obtain ⟨k, hk, rfl, rfl⟩ := hrel
    obtain ⟨s0, s1⟩ := HB.out k hk
    by_cases hlt : k < pan.length
    · obtain ⟨x, hx⟩ := get_of_lt hlt
      obtain ⟨c0, c1⟩ := in_at HG.out.gpan hx
      obtain ⟨b0, off0, rfl, hb0, r0⟩ := IRow.get hp1 hx
      have HS := Lib.hid (sumTo_succ (s := tab) hx)
      clear hx
      go_wp2
      go_round
      case rel => exact ⟨k + 1, by omega, by go_num, by rw [HS.out]⟩
      case measure => simp [intOf]; omega
    · obtain rfl : k = pan.length := by omega
      have hw1 : IntKind.i64.wrap (maxL top + hei) = maxL top + hei := IntWalk.i64_in _ (by omega)
      have hw2 : IntKind.i64.wrap (maxL top + hei + maxL bot) = maxL top + hei + maxL bot := IntWalk.i64_in _ (by omega)
      have ht1 := ht.grow g1
      have hb1 := hb.grow g1
      have H1 := Lib.hid (fun n => (max_any top (by rw [HG.out.t2]; omega) ta tc (w1.drewN n) (ht1.grow (Gr.drewN (Below.refl _ _) n))).mono fun _ _ h => (⟨h.1, h.2.symm⟩ : _ ∧ _ = w1.drewN n))
      have H2 := Lib.hid (fun n => (max_any bot (by rw [HG.out.b2]; omega) ba bc (w1.drewN n) (hb1.grow (Gr.drewN (Below.refl _ _) n))).mono fun _ _ h => (⟨h.1, h.2.symm⟩ : _ ∧ _ = w1.drewN n))
      clear ht1 hb1
      go_wp2
      go_quiet ((first | (go_at_call 64; (with_reducible exact Calls.quiet_of_same (H1.out _))) | (go_at_call 64; (with_reducible exact Calls.quiet_of_same (H2.out _)))))
      clear hw1 hw2
      obtain ⟨p0, p1⟩ := mul_bdS (show 0 ≤ sumTo tab pan pan.length by omega) (show sumTo tab pan pan.length ≤ 12100 by omega) (show 0 ≤ maxL top + hei + maxL bot by omega) (show maxL top + hei + maxL bot ≤ 9000 by omega)
      go_wp2
      refine bodyPost_ret (v := .tuple #[.int .i64 (acrossL tab pan), .int .i64 (alongL hei top bot), .int .i64 (acrossL tab pan * alongL hei top bot), .int .i64 0]) (by simp [results, Try.results18, go_sem, acrossL, alongL]) rfl ⟨rfl, g1.drewN _⟩

end Go.Proofs.Ytoihnilgmdcndaa

namespace Go.Proofs.Ytoihnilgmdcndaa
set_option linter.unusedVariables false
set_option linter.unusedSimpArgs false
open Go.RowKit

/-- The worlds of which F holds. -/
structure AtW (F : World → Prop) where
  val : World
  property : F val

theorem sem_value {P : Program} {w w' : World} {m : Sem Value} {n : Next} (h : (m >>= fun x => pure (Next.value x) : Sem Next).run P w = .ok n w') : ∃ v, n = .value v := by
  cases hm : m.run P w with
  | ok x w1 =>
    simp [hm, go_sem] at h
    exact ⟨_, h.1.symm⟩
  | halt x w1 => simp [hm, go_sem] at h

def plainB (o : Oper) : Bool := match o.op with
  | .move _ | .assign _ | .build _ _ | .load _ _ | .binOp _ _ _ _ _ | .unOp _ _ _ | .convert _ _ _ | .fieldAddr _ _ _ | .field _ _ _ | .indexAddr _ _ _ | .index _ _ _ | .extract _ _ => true
  | _ => false

theorem plain_value {P : Program} {ρ : Operand → Value} {o : Oper} (hp : plainB o = true) {w w' : World} {n : Next} (h : (execOp ρ o).run P w = .ok n w') : ∃ v, n = .value v := by
  unfold plainB at hp
  unfold execOp at h
  split at hp <;> rename_i e <;> try (rw [e] at h; exact sem_value h)
  · rw [e] at h
    simp [go_sem] at h
    exact ⟨_, h.1.symm⟩
  · rw [e] at h
    simp [go_sem] at h
    exact ⟨_, h.1.symm⟩
  · cases hp

section
variable {P : Program} {ops : Array Oper} {Q : Exit → Act → World → Prop} {S : World → Prop}

theorem ord_of_quiet {L : Act → World → Prop} {Q0 : Act → Prop} {r : List (Nat × Bool)} (hQ : ∀ d v c a w, Q (.panic c) (Act.put a d v) w → Q (.panic c) a w) (w : World) :
    ∀ (l : List Oper) (j : Nat) (a : Act), (∀ k o, l[k]? = some o → ops[j + k]? = some o) → l.all plainB = true → wpQuiet P ops S Q0 l a → (∀ a', Q0 a' → wpOrd P ops Q S L r a' w) →
      wpOrd P ops Q S L ((List.range' j l.length).map (fun i => (i, true)) ++ r) a w
  | [], j, a, _, _, h, hr => hr a h
  | o :: rest, j, a, hl, hp, h, hr => by
    simp only [List.all_cons, Bool.and_eq_true] at hp
    have ho : ops[j]? = some o := hl 0 o rfl
    have hl' : ∀ k o', rest[k]? = some o' → ops[j + 1 + k]? = some o' := fun k o' hk => by
      have := hl (k + 1) o' (by simpa using hk)
      rwa [show j + (k + 1) = j + 1 + k by omega] at this
    show ∃ o v, ops[j]? = some o ∧ YieldsIf P ops S o v a ∧ _ ∧ wpOrd P ops Q S L ((List.range' (j + 1) rest.length).map (fun i => (i, true)) ++ r) (a.put o.dst v) w
    unfold wpQuiet at h
    by_cases hw : Region.wanted o (yielded ops a.tmps) = true
    · rw [if_pos hw] at h
      obtain ⟨v, h1, h2⟩ := h
      refine ⟨o, v, ho, Or.inl ⟨hw, fun w1 hS => ?_⟩, fun c a w => hQ _ _ c a w, ord_of_quiet hQ w rest (j + 1) _ hl' hp.2 h2 hr⟩
      have h3 := h1 w1 hS
      unfold Oper.quietAt at h3
      cases hrun : (execOp a.eval o).run P w1 with
      | halt x w2 => rw [hrun] at h3; exact h3.elim
      | ok n w2 =>
        obtain ⟨u, rfl⟩ := plain_value hp.1 hrun
        rw [hrun] at h3
        obtain ⟨rfl, rfl⟩ := h3
        rfl
    · rw [if_neg hw] at h
      exact ⟨o, undef, ho, Or.inr ⟨by simpa using hw, rfl⟩, fun c a w => hQ _ _ c a w, ord_of_quiet hQ w rest (j + 1) _ hl' hp.2 h hr⟩

/-- A stretch of reads, walked as a quiet region is. -/
theorem ord_seg {lst : List Oper} {L : Act → World → Prop} {r : List (Nat × Bool)} {w : World} {a : Act} (j m : Nat) (hp : (decide (j + m ≤ lst.length) && ((lst.drop j).take m).all plainB) = true)
    (hQ : ∀ d v c a w, Q (.panic c) (Act.put a d v) w → Q (.panic c) a w) (h : wpQuiet P lst.toArray S (fun a' => wpOrd P lst.toArray Q S L r a' w) ((lst.drop j).take m) a) :
    wpOrd P lst.toArray Q S L ((List.range' j m).map (fun i => (i, true)) ++ r) a w := by
  simp only [Bool.and_eq_true, decide_eq_true_eq] at hp
  have hl : ((lst.drop j).take m).length = m := by simp; omega
  have := ord_of_quiet (Q := Q) (L := L) (r := r) hQ w ((lst.drop j).take m) j a (fun k o hk => by
    have hk' : k < m := by
      have := (List.getElem?_eq_some_iff.1 hk).1
      omega
    rw [List.getElem?_take_of_lt hk', List.getElem?_drop] at hk
    simpa using hk) hp.2 h (fun a' h' => h')
  rwa [hl] at this

end

end Go.Proofs.Ytoihnilgmdcndaa

namespace Go.Proofs.Ytoihnilgmdcndaa
set_option linter.unusedVariables false
set_option linter.unusedSimpArgs false
open Go.RowKit

/-- What is in the spans of the first k checks. -/
def calTo (H : Nat → Sp) : Nat → Sp
 | 0 => ⟨1, 10000⟩
 | k + 1 => ⟨max (calTo H k).lo (H k).lo, min (calTo H k).hi (H k).hi⟩

theorem calTo_bd (H : Nat → Sp) (k : Nat) : 1 ≤ (calTo H k).lo ∧ (calTo H k).hi ≤ 10000 := by
 induction k with
 | zero => simp [calTo]
 | succ k ih => simp only [calTo]; omega

def CalPost (H : Nat → Sp) (E0 : Int) (w : World) (e : Ending) (w' : World) : Prop :=
 Gr w w' ∧ ((E0 ≠ 0 ∧ e = .returned (.tuple #[.agg #[.int .i64 0, .int .i64 0], .int .i64 E0])) ∨
  (E0 = 0 ∧ (calTo H 10).hi < (calTo H 10).lo ∧ e = .returned (.tuple #[.agg #[.int .i64 0, .int .i64 0], .int .i64 7])) ∨
  (E0 = 0 ∧ ¬ (calTo H 10).hi < (calTo H 10).lo ∧ e = .returned (.tuple #[.agg #[.int .i64 (calTo H 10).lo, .int .i64 (calTo H 10).hi], .int .i64 0])))

set_option maxRecDepth 100000 in
set_option maxHeartbeats 8000000 in
theorem calipers_any (tab hei slo : Int) (pan top bot : List Int) (pa ta ba : Option Addr) (pc tc bc : Nat) (opn : Bool) (W : Wi) (w : World) (hp : IRow w pa pan) (ht : IRow w ta top) (hb : IRow w ba bot) :
  Calls Try.prog 43 #[.agg #[.int .i64 tab, .slice pa pan.length pc, .int .i64 hei, .slice ta top.length tc, .slice ba bot.length bc, .int .i64 slo, .bool opn], .agg #[.int .i64 W.ll, .int .i64 W.lh, .int .i64 W.wl, .int .i64 W.wh, .int .i64 W.hl, .int .i64 W.hh, .int .i64 W.ol, .int .i64 W.oh, .int .i64 W.il, .int .i64 W.ih, .bool W.wo]] w (CalPost (holdL 0 hei slo pan top bot opn W.ll W.lh W.wl W.wh W.hl W.hh W.ol W.oh W.il W.ih W.wo) (firstE [checkE tab hei slo pan top bot opn, W.err]) w) := by
 have gg := ((Gr.al w (.cells #[.int .i64 tab, .slice pa pan.length pc, .int .i64 hei, .slice ta top.length tc, .slice ba bot.length bc, .int .i64 slo, .bool opn] 24)).tr (Gr.al _ (.cells #[.int .i64 W.ll, .int .i64 W.lh, .int .i64 W.wl, .int .i64 W.wh, .int .i64 W.hl, .int .i64 W.hh, .int .i64 W.ol, .int .i64 W.oh, .int .i64 W.il, .int .i64 W.ih, .bool W.wo] 48))).tr (Gr.al _ (.cells #[.int .i64 0, .int .i64 0] 37))
 have hBs := (Box.new w [.int .i64 tab, .slice pa pan.length pc, .int .i64 hei, .slice ta top.length tc, .slice ba bot.length bc, .int .i64 slo, .bool opn] 24 w.heap.size rfl).keep ((Gr.al _ (.cells #[.int .i64 W.ll, .int .i64 W.lh, .int .i64 W.wl, .int .i64 W.wh, .int .i64 W.hl, .int .i64 W.hh, .int .i64 W.ol, .int .i64 W.oh, .int .i64 W.il, .int .i64 W.ih, .bool W.wo] 48)).tr (Gr.al _ (.cells #[.int .i64 0, .int .i64 0] 37)))
 have hWs := (Box.new (w.alloc (.cells #[.int .i64 tab, .slice pa pan.length pc, .int .i64 hei, .slice ta top.length tc, .slice ba bot.length bc, .int .i64 slo, .bool opn] 24)) [.int .i64 W.ll, .int .i64 W.lh, .int .i64 W.wl, .int .i64 W.wh, .int .i64 W.hl, .int .i64 W.hh, .int .i64 W.ol, .int .i64 W.oh, .int .i64 W.il, .int .i64 W.ih, .bool W.wo] 48 (w.heap.size + 1) (by simp)).keep (Gr.al _ (.cells #[.int .i64 0, .int .i64 0] 37))
 have o4 := Own.new ((w.alloc (.cells #[.int .i64 tab, .slice pa pan.length pc, .int .i64 hei, .slice ta top.length tc, .slice ba bot.length bc, .int .i64 slo, .bool opn] 24)).alloc (.cells #[.int .i64 W.ll, .int .i64 W.lh, .int .i64 W.wl, .int .i64 W.wh, .int .i64 W.hl, .int .i64 W.hh, .int .i64 W.ol, .int .i64 W.oh, .int .i64 W.il, .int .i64 W.ih, .bool W.wo] 48)) [.int .i64 0, .int .i64 0] 37 (w.heap.size + 1 + 1) (by simp)
 obtain ⟨eB, heB⟩ : ∃ e, checkE tab hei slo pan top bot opn = e := ⟨_, rfl⟩
 obtain ⟨eW, heW⟩ : ∃ e, W.err = e := ⟨_, rfl⟩
 rw [heB, heW]
 obtain ⟨E, heE⟩ : ∃ e, firstE [eB, eW] = e := ⟨_, rfl⟩
 rw [heE]
 obtain ⟨H, hH⟩ : ∃ H, (holdL 0 hei slo pan top bot opn W.ll W.lh W.wl W.wh W.hl W.hh W.ol W.oh W.il W.ih W.wo) = H := ⟨_, rfl⟩
 have cH := fun (k : Nat) (hk : k < 10) (G : GoodB tab hei slo pan top bot opn) (hW : W.ok) (v : World) (h1 : IRow v pa pan) (h2 : IRow v ta top) (h3 : IRow v ba bot) => holding_any tab hei slo 0 pan top bot pa ta ba pc tc bc opn W.wo W.ll W.lh W.wl W.wh W.hl W.hh W.ol W.oh W.il W.ih k hk (G.sh.at k) hW (by omega) (by omega) v h1 h2 h3
 rw [hH] at cH
 have cB := fun v (h1 : IRow v pa pan) (h2 : IRow v ta top) (h3 : IRow v ba bot) => blank_any tab hei slo pan top bot pa ta ba pc tc bc opn v h1 h2 h3
 rw [heB] at cB
 have cW := fun v => wiErr_any W v
 rw [heW] at cW
 have cE := fun a v (h : IRow v a [eB, eW]) => first_2 eB eW a 2 v h
 rw [heE] at cE
 have CH : Hid (E = 0 → ∀ k : Nat, k < 10 → ∀ v, IRow v pa pan → IRow v ta top → IRow v ba bot → Calls Try.prog 84 #[.agg #[.int .i64 tab, .slice pa pan.length pc, .int .i64 hei, .slice ta top.length tc, .slice ba bot.length bc, .int .i64 slo, .bool opn, .int .i64 0, .slice ta top.length tc, .slice ba bot.length bc], .agg #[.int .i64 W.ll, .int .i64 W.lh, .int .i64 W.wl, .int .i64 W.wh, .int .i64 W.hl, .int .i64 W.hh, .int .i64 W.ol, .int .i64 W.oh, .int .i64 W.il, .int .i64 W.ih, .bool W.wo], .int .i64 k] v fun e w' => e = .returned (.agg #[.int .i64 (H k).lo, .int .i64 (H k).hi]) ∧ Gr v w') := Lib.hid (fun h0 k hk v h1 h2 h3 => by
  have hz := firstE_0 (heE.trans h0)
  exact cH k hk (good_of (heB.trans (hz eB (by simp)))) (Wi.ok_of (heW.trans (hz eW (by simp)))) v h1 h2 h3)
 rw [hH]
 have CB := Lib.hid cB
 have CW := Lib.hid cW
 have CE := Lib.hid cE
 have HP := Lib.hid hp
 have HT := Lib.hid ht
 have HB := Lib.hid hb
 clear cB cW cE cH heB heW heE hH hp ht hb
 go_enter Try.func43, Try.ntmps43
 go_upto_region 1 with fail
 refine wp_abs (fun U => Gr w U ∧ Box U w.heap.size [.int .i64 tab, .slice pa pan.length pc, .int .i64 hei, .slice ta top.length tc, .slice ba bot.length bc, .int .i64 slo, .bool opn] ∧ Box U (w.heap.size + 1) [.int .i64 W.ll, .int .i64 W.lh, .int .i64 W.wl, .int .i64 W.wh, .int .i64 W.hl, .int .i64 W.hh, .int .i64 W.ol, .int .i64 W.oh, .int .i64 W.il, .int .i64 W.ih, .bool W.wo] ∧ Own U (w.heap.size + 1 + 1) [.int .i64 0, .int .i64 0]) ⟨gg, hBs, hWs, o4⟩ ?_
 clear gg hBs hWs o4
 rintro U ⟨gU, hBs, hWs, o4⟩
 refine wp_region_facts 6 [(1, 0), (3, 2), (4, 1), (4, 3), (5, 4)] (fun x => ⟨#[.agg #[.int .i64 tab, .slice pa pan.length pc, .int .i64 hei, .slice ta top.length tc, .slice ba bot.length bc, .int .i64 slo, .bool opn], .agg #[.int .i64 W.ll, .int .i64 W.lh, .int .i64 W.wl, .int .i64 W.wh, .int .i64 W.hl, .int .i64 W.hh, .int .i64 W.ol, .int .i64 W.oh, .int .i64 W.il, .int .i64 W.ih, .bool W.wo], .pointer (some ⟨w.heap.size, 0, none⟩), .pointer (some ⟨(w.heap.size + 1), 0, none⟩), .pointer (some ⟨(w.heap.size + 1 + 1), 0, none⟩), .int .i64 0, undef, undef, undef, undef, x 0, x 1, x 2, x 3, x 4, x 5, undef, undef, undef, undef, undef, undef, undef, undef, undef, undef, undef, undef, undef, undef, undef, undef, undef, undef, undef, undef, undef, undef, undef, undef, undef, undef], []⟩) (fun _ => undef) [fun _ x => x = .agg #[.int .i64 tab, .slice pa pan.length pc, .int .i64 hei, .slice ta top.length tc, .slice ba bot.length bc, .int .i64 slo, .bool opn], fun _ x => x = .int .i64 eB, fun _ x => x = .agg #[.int .i64 W.ll, .int .i64 W.lh, .int .i64 W.wl, .int .i64 W.wh, .int .i64 W.hl, .int .i64 W.hh, .int .i64 W.ol, .int .i64 W.oh, .int .i64 W.il, .int .i64 W.ih, .bool W.wo], fun _ x => x = .int .i64 eW, fun v x => ∃ a, x = .slice a 2 2 ∧ IRow v a [eB, eW], fun _ x => x = .int .i64 E] (by rfl) (by kernel_rfl) (by kernel_rfl) (by kernel_rfl) (stays_cons (Stays.eq _) (stays_cons (Stays.eq _) (stays_cons (Stays.eq _) (stays_cons (Stays.eq _) (stays_cons ((show Stays (fun v x => ∃ a, x = .slice a 2 2 ∧ IRow v a [eB, eW]) from fun v v' x g ⟨a, e, r⟩ => ⟨a, e, r.grow g⟩)) (stays_cons (Stays.eq _) stays_nil)))))) ?step1 ?fin1
 case step1 =>
  rintro i hi x v gv hd K hK
  have hi8 : i = 0 ∨ i = 1 ∨ i = 2 ∨ i = 3 ∨ i = 4 ∨ i = 5 := by omega
  rcases hi8 with rfl | rfl | rfl | rfl | rfl | rfl
  ·try dsimp only [upd, Nat.reduceBEq, cond_true, cond_false]
   refine wpOp_step rfl (fun K' hK' => ?_)
   rw [if_pos (by rfl)]
   refine wp_load_mid 24 _ rfl w.heap.size 0 (by rfl) [.int .i64 tab, .slice pa pan.length pc, .int .i64 hei, .slice ta top.length tc, .slice ba bot.length bc, .int .i64 slo, .bool opn] _ (fun j u hu => by rw [Nat.zero_add]; exact (hBs.keep gv).2 j u hu) Try.underlying24 rfl (by kernel_rfl) ?_
   exact hK' _ _ (hK _ _ (Below.refl _ _) (at_of rfl (rfl)))
  ·obtain ⟨x, rfl⟩ := upd_of (show x 0 = .agg #[.int .i64 tab, .slice pa pan.length pc, .int .i64 hei, .slice ta top.length tc, .slice ba bot.length bc, .int .i64 slo, .bool opn] from hd 0 _ (by simp) rfl)
   try dsimp only [upd, Nat.reduceBEq, cond_true, cond_false]
   refine wpOp_step rfl (fun K' hK' => ?_)
   go_simp
   refine (CB.out v (HP.out.grow (gU.tr gv)) (HT.out.grow (gU.tr gv)) (HB.out.grow (gU.tr gv))).mono ?_
   rintro e v' ⟨rfl, hg⟩
   exact hK' _ _ (hK _ _ hg (at_of rfl (rfl)))
  ·try dsimp only [upd, Nat.reduceBEq, cond_true, cond_false]
   refine wpOp_step rfl (fun K' hK' => ?_)
   rw [if_pos (by rfl)]
   refine wp_load_mid 48 _ rfl (w.heap.size + 1) 0 (by rfl) [.int .i64 W.ll, .int .i64 W.lh, .int .i64 W.wl, .int .i64 W.wh, .int .i64 W.hl, .int .i64 W.hh, .int .i64 W.ol, .int .i64 W.oh, .int .i64 W.il, .int .i64 W.ih, .bool W.wo] _ (fun j u hu => by rw [Nat.zero_add]; exact (hWs.keep gv).2 j u hu) Try.underlying48 rfl (by kernel_rfl) ?_
   exact hK' _ _ (hK _ _ (Below.refl _ _) (at_of rfl (rfl)))
  ·obtain ⟨x, rfl⟩ := upd_of (show x 2 = .agg #[.int .i64 W.ll, .int .i64 W.lh, .int .i64 W.wl, .int .i64 W.wh, .int .i64 W.hl, .int .i64 W.hh, .int .i64 W.ol, .int .i64 W.oh, .int .i64 W.il, .int .i64 W.ih, .bool W.wo] from hd 2 _ (by simp) rfl)
   try dsimp only [upd, Nat.reduceBEq, cond_true, cond_false]
   refine wpOp_step rfl (fun K' hK' => ?_)
   go_simp
   refine (CW.out v).mono ?_
   rintro e v' ⟨rfl, hg⟩
   exact hK' _ _ (hK _ _ hg (at_of rfl (rfl)))
  ·obtain ⟨x, rfl⟩ := upd_of (show x 1 = .int .i64 eB from hd 1 _ (by simp) rfl)
   obtain ⟨x, rfl⟩ := upd_of (show x 3 = .int .i64 eW from hd 3 _ (by simp) rfl)
   try dsimp only [upd, Nat.reduceBEq, cond_true, cond_false]
   refine wpOp_step rfl (fun K' hK' => ?_)
   go_simp
   have hg := Gr.al v (.cells (List.toArray [.int .i64 eB, .int .i64 eW]) 28)
   exact hK' _ _ (hK _ _ hg (at_of rfl (⟨_, rfl, IRow.new' v 28 [eB, eW] (by simp) v.heap.size rfl _ (by rfl)⟩)))
  ·obtain ⟨a4, e4, r4⟩ := hd 4 _ (by simp) rfl
   obtain ⟨x, rfl⟩ := upd_of (show x 4 = .slice a4 2 2 from e4)
   try dsimp only [upd, Nat.reduceBEq, cond_true, cond_false]
   refine wpOp_step rfl (fun K' hK' => ?_)
   go_simp
   refine (CE.out a4 v r4).mono ?_
   rintro e v' ⟨rfl, hg⟩
   exact hK' _ _ (hK _ _ hg (at_of rfl (rfl)))
 case fin1 =>
  rintro x v gv hd
  obtain ⟨x, rfl⟩ := upd_of (show x 5 = .int .i64 E from hd 5 _ (by omega) rfl)
  clear hd
  show wpList Try.prog _ _ (List.drop 6 _) (⟨#[_, _, _, _, _, _, _, _, _, _, x 0, x 1, x 2, x 3, x 4, .int .i64 E, _, _, _, _, _, _, _, _, _, _, _, _, _, _, _, _, _, _, _, _, _, _, _, _, _, _], []⟩ : Act) v
  simp only [List.drop_succ_cons, List.drop_zero]
  have hle : w.heap.size ≤ w.heap.size + 1 + 1 := by omega
  have gV := gU.tr gv
  have p4 := o4.keep gv
  have hBs := hBs.keep gv
  have hWs := hWs.keep gv
  obtain ⟨q0, q1⟩ := p4.1.c2
  have z0 := p4.2 0
  have z1 := p4.2 1
  by_cases h0 : E = 0
  case neg =>
   have h0' : (E != 0) = true := by rw [bne_iff_ne]; exact h0
   have H0 := Lib.hid h0
   clear h0
   go_wp2
   refine bodyPost_ret (v := .tuple #[.agg #[.int .i64 0, .int .i64 0], .int .i64 E]) (by simp [results, Try.results43, go_sem, q0, q1]) rfl ?_
   exact ⟨(gV.setCell (p := ⟨w.heap.size + 1 + 1, 0, none⟩) hle _).setCell (p := ⟨w.heap.size + 1 + 1, 1, none⟩) hle _, .inl ⟨H0.out, rfl⟩⟩
  subst h0
  have CH2 := Lib.hid (CH.out rfl)
  clear CH
  obtain ⟨b0, b1, b2, b3, b4, b5, b6⟩ := hBs.c7
  go_upto_region 6 with (go_at_call 68; refine (layS_any tab hei slo 0 pan top bot pa ta ba pc tc bc opn _).mono ?_; rintro e w4 ⟨rfl, g4⟩)
  clear b0 b1 b2 b3 b4 b5 b6 q0 q1 z0 z1
  have gA := (g4.tr (Gr.al w4 (.cells #[.int .i64 tab, .slice pa pan.length pc, .int .i64 hei, .slice ta top.length tc, .slice ba bot.length bc, .int .i64 slo, .bool opn, .int .i64 0, .slice ta top.length tc, .slice ba bot.length bc] 124))).tr (Gr.al _ (.cells #[.int .i64 1, .int .i64 10000] 37))
  have bX := (Box.new w4 [.int .i64 tab, .slice pa pan.length pc, .int .i64 hei, .slice ta top.length tc, .slice ba bot.length bc, .int .i64 slo, .bool opn, .int .i64 0, .slice ta top.length tc, .slice ba bot.length bc] 124 w4.heap.size rfl).keep (Gr.al _ (.cells #[.int .i64 1, .int .i64 10000] 37))
  have o8 := Own.new (w4.alloc (.cells #[.int .i64 tab, .slice pa pan.length pc, .int .i64 hei, .slice ta top.length tc, .slice ba bot.length bc, .int .i64 slo, .bool opn, .int .i64 0, .slice ta top.length tc, .slice ba bot.length bc] 124)) [.int .i64 1, .int .i64 10000] 37 (w4.heap.size + 1) (by simp)
  have l4 : w.heap.size + 1 + 1 < w4.heap.size := by have := p4.1.1; have := g4.size; omega
  refine wp_abs (fun V => Gr w V ∧ Box V (w.heap.size + 1) [.int .i64 W.ll, .int .i64 W.lh, .int .i64 W.wl, .int .i64 W.wh, .int .i64 W.hl, .int .i64 W.hh, .int .i64 W.ol, .int .i64 W.oh, .int .i64 W.il, .int .i64 W.ih, .bool W.wo] ∧ Own V (w.heap.size + 1 + 1) [.int .i64 0, .int .i64 0] ∧ Box V w4.heap.size [.int .i64 tab, .slice pa pan.length pc, .int .i64 hei, .slice ta top.length tc, .slice ba bot.length bc, .int .i64 slo, .bool opn, .int .i64 0, .slice ta top.length tc, .slice ba bot.length bc] ∧ Own V (w4.heap.size + 1) [.int .i64 1, .int .i64 10000]) ⟨gV.tr gA, hWs.keep gA, p4.keep gA, bX, o8⟩ ?_
  clear gV hBs hWs p4 gA bX g4 gv o4 gU o8
  rintro V ⟨gV, hWs, o4, bX, o8⟩
  refine (show (∀ s : Nat → Value, Code.wp Try.prog _ _ ⟨#[.agg #[.int .i64 tab, .slice pa pan.length pc, .int .i64 hei, .slice ta top.length tc, .slice ba bot.length bc, .int .i64 slo, .bool opn], .agg #[.int .i64 W.ll, .int .i64 W.lh, .int .i64 W.wl, .int .i64 W.wh, .int .i64 W.hl, .int .i64 W.hh, .int .i64 W.ol, .int .i64 W.oh, .int .i64 W.il, .int .i64 W.ih, .bool W.wo], .pointer (some ⟨w.heap.size, 0, none⟩), .pointer (some ⟨(w.heap.size + 1), 0, none⟩), .pointer (some ⟨(w.heap.size + 1 + 1), 0, none⟩), .int .i64 0, .int .i64 0, .pointer (some ⟨w4.heap.size, 0, none⟩), .pointer (some ⟨(w4.heap.size + 1), 0, none⟩), undef, s 10, s 11, s 12, s 13, s 14, s 15, s 16, s 17, s 18, s 19, s 20, s 21, s 22, undef, undef, undef, undef, undef, undef, undef, undef, undef, undef, undef, undef, undef, undef, undef, undef, undef, undef, undef], []⟩ _) → _ from fun h => h ((fun l : List Value => fun i => l.getD i undef) [undef, undef, undef, undef, undef, undef, undef, undef, undef, undef, _, _, _, _, _, _, _, _, _, _, _, _, _])) ?_
  intro s
  go_wp2
  go_loopw [23] (fun x wr => Hid (∃ k : Nat, k ≤ 10 ∧ x = .int .i64 k ∧ Gr w wr ∧ Box wr (w.heap.size + 1) [.int .i64 W.ll, .int .i64 W.lh, .int .i64 W.wl, .int .i64 W.wh, .int .i64 W.hl, .int .i64 W.hh, .int .i64 W.ol, .int .i64 W.oh, .int .i64 W.il, .int .i64 W.ih, .bool W.wo] ∧ Own wr (w.heap.size + 1 + 1) [.int .i64 0, .int .i64 0] ∧ Box wr w4.heap.size [.int .i64 tab, .slice pa pan.length pc, .int .i64 hei, .slice ta top.length tc, .slice ba bot.length bc, .int .i64 slo, .bool opn, .int .i64 0, .slice ta top.length tc, .slice ba bot.length bc] ∧ Own wr (w4.heap.size + 1) [.int .i64 (calTo H k).lo, .int .i64 (calTo H k).hi])) (fun x wr => 10 - (intOf x).toNat)
  case atStart => exact Lib.hid ⟨0, by omega, rfl, gV, hWs, o4, bX, o8⟩
  case round =>
   obtain ⟨k, hk, rfl, gR, hWr, o4r, bXr, o8r⟩ := hrel.out
   clear hrel gV hWs o4 bX o8
   by_cases hlt : k < 10
   case neg =>
    obtain rfl : k = 10 := by omega
    obtain ⟨q0, q1⟩ := o8r.1.c2
    obtain ⟨c0, c1⟩ := o4r.1.c2
    have z0 := o4r.2 0
    have z1 := o4r.2 1
    obtain ⟨⟨lo1, hi1⟩, hC⟩ : ∃ c, calTo H 10 = c := ⟨_, rfl⟩
    have HC := Lib.hid hC
    rw [hC] at q0 q1
    dsimp only at q0 q1
    clear hC
    by_cases hlh : hi1 < lo1
    ·have HL := Lib.hid hlh
     go_wp2
     refine bodyPost_ret (v := .tuple #[.agg #[.int .i64 0, .int .i64 0], .int .i64 7]) (by simp [results, Try.results43, go_sem, c0, c1]) rfl ?_
     exact ⟨(gR.setCell (p := ⟨w.heap.size + 1 + 1, 0, none⟩) hle _).setCell (p := ⟨w.heap.size + 1 + 1, 1, none⟩) hle _, .inr (.inl ⟨rfl, by rw [HC.out]; have := HL.out; show hi1 < lo1; omega, rfl⟩)⟩
    ·have HL := Lib.hid hlh
     go_wp2
     refine bodyPost_ret (v := .tuple #[.agg #[.int .i64 lo1, .int .i64 hi1], .int .i64 0]) (by simp [results, Try.results43, go_sem, c0, c1]) rfl ?_
     exact ⟨(gR.setCell (p := ⟨w.heap.size + 1 + 1, 0, none⟩) hle _).setCell (p := ⟨w.heap.size + 1 + 1, 1, none⟩) hle _, .inr (.inr ⟨rfl, by rw [HC.out]; have := HL.out; show ¬ hi1 < lo1; omega, by rw [HC.out]⟩)⟩
   go_upto_region 9 with fail
   have hn : calTo H (k + 1) = ⟨max (calTo H k).lo (H k).lo, min (calTo H k).hi (H k).hi⟩ := rfl
   have HN := Lib.hid hn
   obtain ⟨bl, bh⟩ := calTo_bd H k
   obtain ⟨⟨lo1, hi1⟩, hC⟩ : ∃ c, calTo H k = c := ⟨_, rfl⟩
   rw [hC] at o8r bl bh
   have HC := Lib.hid hC
   obtain ⟨⟨hl, hh⟩, hHk⟩ : ∃ c, H k = c := ⟨_, rfl⟩
   have chk := CH2.out k hlt
   rw [hHk] at chk
   have HHK := Lib.hid hHk
   have CK := Lib.hid chk
   have b8 := o8r.1
   dsimp only at b8
   clear hn hC hHk chk
   refine (show (∀ r : Nat → Value, Code.wp Try.prog _ _ ⟨#[.agg #[.int .i64 tab, .slice pa pan.length pc, .int .i64 hei, .slice ta top.length tc, .slice ba bot.length bc, .int .i64 slo, .bool opn], .agg #[.int .i64 W.ll, .int .i64 W.lh, .int .i64 W.wl, .int .i64 W.wh, .int .i64 W.hl, .int .i64 W.hh, .int .i64 W.ol, .int .i64 W.oh, .int .i64 W.il, .int .i64 W.ih, .bool W.wo], .pointer (some ⟨w.heap.size, 0, none⟩), .pointer (some ⟨(w.heap.size + 1), 0, none⟩), .pointer (some ⟨(w.heap.size + 1 + 1), 0, none⟩), .int .i64 0, .int .i64 0, .pointer (some ⟨w4.heap.size, 0, none⟩), .pointer (some ⟨(w4.heap.size + 1), 0, none⟩), .int .i64 k, s 10, s 11, s 12, s 13, s 14, s 15, s 16, s 17, s 18, s 19, s 20, s 21, s 22, .int .i64 k, r 24, r 25, r 26, r 27, r 28, r 29, r 30, r 31, r 32, r 33, r 34, undef, undef, undef, undef, undef, undef, undef], []⟩ _) → _ from fun h => h ((fun l : List Value => fun i => l.getD i undef) [undef, undef, undef, undef, undef, undef, undef, undef, undef, undef, undef, undef, undef, undef, undef, undef, undef, undef, undef, undef, undef, undef, undef, undef, _, _, _, _, _, _, _, _, _, _, _, undef, undef, undef, undef, undef, undef, undef])) ?_
   intro r
   refine wp_region_facts 8 [(3, 2), (5, 1), (5, 3), (5, 4), (6, 5), (7, 0), (7, 6)] (fun x => ⟨#[.agg #[.int .i64 tab, .slice pa pan.length pc, .int .i64 hei, .slice ta top.length tc, .slice ba bot.length bc, .int .i64 slo, .bool opn], .agg #[.int .i64 W.ll, .int .i64 W.lh, .int .i64 W.wl, .int .i64 W.wh, .int .i64 W.hl, .int .i64 W.hh, .int .i64 W.ol, .int .i64 W.oh, .int .i64 W.il, .int .i64 W.ih, .bool W.wo], .pointer (some ⟨w.heap.size, 0, none⟩), .pointer (some ⟨(w.heap.size + 1), 0, none⟩), .pointer (some ⟨(w.heap.size + 1 + 1), 0, none⟩), .int .i64 0, .int .i64 0, .pointer (some ⟨w4.heap.size, 0, none⟩), .pointer (some ⟨(w4.heap.size + 1), 0, none⟩), .int .i64 k, s 10, s 11, s 12, s 13, s 14, s 15, s 16, s 17, s 18, s 19, s 20, s 21, s 22, .int .i64 k, r 24, r 25, x 0, x 1, x 2, x 3, x 4, x 5, x 6, x 7, r 34, undef, undef, undef, undef, undef, undef, undef], []⟩) (fun i => r (26 + i)) [fun _ x => x = .agg #[.int .i64 lo1, .int .i64 hi1], fun _ x => x = .agg #[.int .i64 tab, .slice pa pan.length pc, .int .i64 hei, .slice ta top.length tc, .slice ba bot.length bc, .int .i64 slo, .bool opn, .int .i64 0, .slice ta top.length tc, .slice ba bot.length bc], fun _ x => x = .agg #[.int .i64 W.ll, .int .i64 W.lh, .int .i64 W.wl, .int .i64 W.wh, .int .i64 W.hl, .int .i64 W.hh, .int .i64 W.ol, .int .i64 W.oh, .int .i64 W.il, .int .i64 W.ih, .bool W.wo], fun _ x => x = .agg #[.int .i64 W.ll, .int .i64 W.lh, .int .i64 W.wl, .int .i64 W.wh, .int .i64 W.hl, .int .i64 W.hh, .int .i64 W.ol, .int .i64 W.oh, .int .i64 W.il, .int .i64 W.ih, .bool W.wo], fun _ x => x = .int .i64 k, fun _ x => x = .agg #[.int .i64 hl, .int .i64 hh], fun v x => ∃ a, x = .slice a 1 1 ∧ SRow v a [⟨hl, hh⟩], fun _ x => x = .agg #[.int .i64 (max lo1 hl), .int .i64 (min hi1 hh)]] (by rfl) (by kernel_rfl) (by kernel_rfl) (by kernel_rfl) (stays_cons (Stays.eq _) (stays_cons (Stays.eq _) (stays_cons (Stays.eq _) (stays_cons (Stays.eq _) (stays_cons (Stays.eq _) (stays_cons (Stays.eq _) (stays_cons ((show Stays (fun v x => ∃ a, x = .slice a 1 1 ∧ SRow v a [⟨hl, hh⟩]) from fun v v' x g ⟨a, e, r⟩ => ⟨a, e, r.grow g⟩)) (stays_cons (Stays.eq _) stays_nil)))))))) ?step9 ?fin9
   case step9 =>
    rintro i hi x v gv hd K hK
    have hi8 : i = 0 ∨ i = 1 ∨ i = 2 ∨ i = 3 ∨ i = 4 ∨ i = 5 ∨ i = 6 ∨ i = 7 := by omega
    rcases hi8 with rfl | rfl | rfl | rfl | rfl | rfl | rfl | rfl
    ·try dsimp only [upd, Nat.reduceBEq, cond_true, cond_false]
     refine wpOp_step rfl (fun K' hK' => ?_)
     rw [if_pos (by rfl)]
     refine wp_load_mid 37 _ rfl (w4.heap.size + 1) 0 (by rfl) [.int .i64 lo1, .int .i64 hi1] _ (fun j u hu => by rw [Nat.zero_add]; exact (b8.keep gv).2 j u hu) Try.underlying37 rfl (by kernel_rfl) ?_
     exact hK' _ _ (hK _ _ (Below.refl _ _) (at_of rfl (rfl)))
    ·try dsimp only [upd, Nat.reduceBEq, cond_true, cond_false]
     refine wpOp_step rfl (fun K' hK' => ?_)
     rw [if_pos (by rfl)]
     refine wp_load_mid 124 _ rfl w4.heap.size 0 (by rfl) [.int .i64 tab, .slice pa pan.length pc, .int .i64 hei, .slice ta top.length tc, .slice ba bot.length bc, .int .i64 slo, .bool opn, .int .i64 0, .slice ta top.length tc, .slice ba bot.length bc] _ (fun j u hu => by rw [Nat.zero_add]; exact (bXr.keep gv).2 j u hu) Try.underlying124 rfl (by kernel_rfl) ?_
     exact hK' _ _ (hK _ _ (Below.refl _ _) (at_of rfl (rfl)))
    ·try dsimp only [upd, Nat.reduceBEq, cond_true, cond_false]
     refine wpOp_step rfl (fun K' hK' => ?_)
     rw [if_pos (by rfl)]
     refine wp_load_mid 48 _ rfl (w.heap.size + 1) 0 (by rfl) [.int .i64 W.ll, .int .i64 W.lh, .int .i64 W.wl, .int .i64 W.wh, .int .i64 W.hl, .int .i64 W.hh, .int .i64 W.ol, .int .i64 W.oh, .int .i64 W.il, .int .i64 W.ih, .bool W.wo] _ (fun j u hu => by rw [Nat.zero_add]; exact (hWr.keep gv).2 j u hu) Try.underlying48 rfl (by kernel_rfl) ?_
     exact hK' _ _ (hK _ _ (Below.refl _ _) (at_of rfl (rfl)))
    ·obtain ⟨x, rfl⟩ := upd_of (show x 2 = .agg #[.int .i64 W.ll, .int .i64 W.lh, .int .i64 W.wl, .int .i64 W.wh, .int .i64 W.hl, .int .i64 W.hh, .int .i64 W.ol, .int .i64 W.oh, .int .i64 W.il, .int .i64 W.ih, .bool W.wo] from hd 2 _ (by simp) rfl)
     try dsimp only [upd, Nat.reduceBEq, cond_true, cond_false]
     refine wpOp_step rfl (fun K' hK' => ?_)
     go_simp
     exact hK' _ _ (hK _ _ (Below.refl _ _) (at_of rfl (rfl)))
    ·try dsimp only [upd, Nat.reduceBEq, cond_true, cond_false]
     refine wpOp_step rfl (fun K' hK' => ?_)
     go_simp
     exact hK' _ _ (hK _ _ (Below.refl _ _) (at_of rfl (rfl)))
    ·obtain ⟨x, rfl⟩ := upd_of (show x 1 = .agg #[.int .i64 tab, .slice pa pan.length pc, .int .i64 hei, .slice ta top.length tc, .slice ba bot.length bc, .int .i64 slo, .bool opn, .int .i64 0, .slice ta top.length tc, .slice ba bot.length bc] from hd 1 _ (by simp) rfl)
     obtain ⟨x, rfl⟩ := upd_of (show x 3 = .agg #[.int .i64 W.ll, .int .i64 W.lh, .int .i64 W.wl, .int .i64 W.wh, .int .i64 W.hl, .int .i64 W.hh, .int .i64 W.ol, .int .i64 W.oh, .int .i64 W.il, .int .i64 W.ih, .bool W.wo] from hd 3 _ (by simp) rfl)
     obtain ⟨x, rfl⟩ := upd_of (show x 4 = .int .i64 k from hd 4 _ (by simp) rfl)
     try dsimp only [upd, Nat.reduceBEq, cond_true, cond_false]
     refine wpOp_step rfl (fun K' hK' => ?_)
     go_simp
     refine (CK.out v (HP.out.grow (gR.tr gv)) (HT.out.grow (gR.tr gv)) (HB.out.grow (gR.tr gv))).mono ?_
     rintro e v' ⟨rfl, hg⟩
     exact hK' _ _ (hK _ _ hg (at_of rfl (rfl)))
    ·obtain ⟨x, rfl⟩ := upd_of (show x 5 = .agg #[.int .i64 hl, .int .i64 hh] from hd 5 _ (by simp) rfl)
     try dsimp only [upd, Nat.reduceBEq, cond_true, cond_false]
     refine wpOp_step rfl (fun K' hK' => ?_)
     go_simp
     have hg := Gr.al v (.cells (List.toArray [.int .i64 hl, .int .i64 hh]) 37)
     exact hK' _ _ (hK _ _ hg (at_of rfl (⟨_, rfl, SRow.new1 v 37 hl hh v.heap.size rfl⟩)))
    ·obtain ⟨x, rfl⟩ := upd_of (show x 0 = .agg #[.int .i64 lo1, .int .i64 hi1] from hd 0 _ (by simp) rfl)
     obtain ⟨a6, e6, r6⟩ := hd 6 _ (by simp) rfl
     obtain ⟨x, rfl⟩ := upd_of (show x 6 = .slice a6 1 1 from e6)
     try dsimp only [upd, Nat.reduceBEq, cond_true, cond_false]
     refine wpOp_step rfl (fun K' hK' => ?_)
     go_simp
     refine (meet_one ⟨lo1, hi1⟩ hl hh a6 1 v r6).mono ?_
     rintro e v' ⟨rfl, hg⟩
     exact hK' _ _ (hK _ _ hg (at_of rfl (rfl)))
   case fin9 =>
    rintro x v gv hd
    obtain ⟨x, rfl⟩ := upd_of (show x 7 = .agg #[.int .i64 (max lo1 hl), .int .i64 (min hi1 hh)] from hd 7 _ (by omega) rfl)
    clear hd
    show wpList Try.prog _ _ (List.drop 8 _) (⟨#[_, _, _, _, _, _, _, _, _, _, _, _, _, _, _, _, _, _, _, _, _, _, _, _, _, _, x 0, x 1, x 2, x 3, x 4, x 5, x 6, .agg #[.int .i64 (max lo1 hl), .int .i64 (min hi1 hh)], _, _, _, _, _, _, _, _], []⟩ : Act) v
    simp only [List.drop_succ_cons, List.drop_zero]
    have o8v := o8r.keep gv
    obtain ⟨q0, q1⟩ := o8v.1.c2
    have z0 := o8v.2 0
    have z1 := o8v.2 1
    have h8 : w.heap.size ≤ w4.heap.size + 1 := by omega
    have hX := bXr.keep gv
    have hW2 := hWr.keep gv
    have o4v := o4r.keep gv
    have gN := ((gR.tr gv).setCell (p := ⟨w4.heap.size + 1, 0, none⟩) h8 (.int .i64 (max lo1 hl))).setCell (p := ⟨w4.heap.size + 1, 1, none⟩) h8 (.int .i64 (min hi1 hh))
    have kN : Kx (fun b => b = w4.heap.size + 1) v ((v.setCell ⟨w4.heap.size + 1, 0, none⟩ (.int .i64 (max lo1 hl))).setCell ⟨w4.heap.size + 1, 1, none⟩ (.int .i64 (min hi1 hh))) := (Kx.set (Z := fun b => b = w4.heap.size + 1) (p := ⟨w4.heap.size + 1, 0, none⟩) rfl _).tr (Kx.set (Z := fun b => b = w4.heap.size + 1) (p := ⟨w4.heap.size + 1, 1, none⟩) rfl _)
    have oN := (o8v.set (i := 0) (v := .int .i64 (max lo1 hl)) (by simp)).set (i := 1) (v := .int .i64 (min hi1 hh)) (by simp)
    have hXN := hX.kx kN (by omega)
    have hWN := hW2.kx kN (by omega)
    have o4N := o4v.kx kN (by omega)
    clear gR hWr o4r bXr o8r o8v b8 hX hW2 o4v bl bh
    go_wp2
    go_roundw
    case rel => exact Lib.hid ⟨k + 1, by omega, by go_num, gN, hWN, o4N, hXN, by rw [HN.out, HC.out, HHK.out]; exact oN⟩
    case measure => simp [intOf]; omega

def ScoresPost (E0 : Int) (across along : List Int) (w : World) (e : Ending) (w' : World) : Prop :=
 Gr w w' ∧ ((E0 ≠ 0 ∧ e = .returned (.tuple #[.slice none 0 0, .slice none 0 0, .int .i64 E0])) ∨
  (E0 = 0 ∧ ∃ a c b d, e = .returned (.tuple #[.slice a across.length c, .slice b along.length d, .int .i64 0]) ∧ IRow w' a across ∧ IRow w' b along))

theorem infoIntS : (Try.prog.info? 3).map (fun i => (i.zero, i.size, i.bytes)) = some (some (.int .i64 0), 1, 8) := by kernel_rfl

/-- The places of the first k scores. -/
def placesTo (tab : Int) (pan : List Int) (k : Nat) : List Int := (List.range k).map (sumTo tab pan)

theorem places_succ (tab : Int) (pan : List Int) (k : Nat) : placesTo tab pan (k + 1) = placesTo tab pan k ++ [sumTo tab pan k] := by simp [placesTo, List.range_succ]

theorem places_len (tab : Int) (pan : List Int) (k : Nat) : (placesTo tab pan k).length = k := by simp [placesTo]

set_option maxRecDepth 100000 in
set_option maxHeartbeats 8000000 in
theorem scores_any (tab hei slo : Int) (pan top bot : List Int) (pa ta ba : Option Addr) (pc tc bc : Nat) (opn : Bool) (w : World) (hp : IRow w pa pan) (ht : IRow w ta top) (hb : IRow w ba bot) :
  Calls Try.prog 19 #[.agg #[.int .i64 tab, .slice pa pan.length pc, .int .i64 hei, .slice ta top.length tc, .slice ba bot.length bc, .int .i64 slo, .bool opn]] w (ScoresPost (checkE tab hei slo pan top bot opn) (placesTo tab pan 4) [maxL top, maxL top + hei] w) := by
 have gg := Gr.al w (.cells #[.int .i64 tab, .slice pa pan.length pc, .int .i64 hei, .slice ta top.length tc, .slice ba bot.length bc, .int .i64 slo, .bool opn] 24)
 have hBs := Box.new w [.int .i64 tab, .slice pa pan.length pc, .int .i64 hei, .slice ta top.length tc, .slice ba bot.length bc, .int .i64 slo, .bool opn] 24 w.heap.size rfl
 obtain ⟨E, heE⟩ : ∃ e, checkE tab hei slo pan top bot opn = e := ⟨_, rfl⟩
 rw [heE]
 have cB := fun v (h1 : IRow v pa pan) (h2 : IRow v ta top) (h3 : IRow v ba bot) => blank_any tab hei slo pan top bot pa ta ba pc tc bc opn v h1 h2 h3
 rw [heE] at cB
 have CB := Lib.hid cB
 have HE := Lib.hid heE
 clear cB heE
 obtain ⟨i0, hi, hz0, hz1, hz2⟩ := info_parts infoIntS
 go_enter Try.func19, Try.ntmps19
 obtain ⟨b0, b1, b2, b3, b4, b5, b6⟩ := hBs.c7
 go_upto_region 2 with (go_at_call 17; refine (CB.out _ (hp.grow gg) (ht.grow gg) (hb.grow gg)).mono ?_; rintro e w2 ⟨rfl, g2⟩)
 have hBs := hBs.keep g2
 have g2' := gg.tr g2
 have hp := hp.grow g2'
 have ht := ht.grow g2'
 refine wp_abs (fun U => Gr w U ∧ Box U w.heap.size [.int .i64 tab, .slice pa pan.length pc, .int .i64 hei, .slice ta top.length tc, .slice ba bot.length bc, .int .i64 slo, .bool opn] ∧ IRow U pa pan ∧ IRow U ta top) ⟨g2', hBs, hp, ht⟩ ?_
 clear gg hBs b0 b1 b2 b3 b4 b5 b6 g2 g2' hp ht hb
 rintro U ⟨gU, hBs, hp, ht⟩
 by_cases h0 : E = 0
 case neg =>
  have h0' : (E != 0) = true := by rw [bne_iff_ne]; exact h0
  have H0 := Lib.hid h0
  clear h0
  go_wp2
  refine bodyPost_ret (v := .tuple #[.slice none 0 0, .slice none 0 0, .int .i64 E]) (by simp [results, Try.results19, go_sem]) rfl ?_
  exact ⟨gU, .inl ⟨H0.out, rfl⟩⟩
 subst h0
 have G := good_of HE.out
 have hl4 := G.l4
 have hl2 := G.t2
 obtain ⟨t0, t1⟩ := in_one G.gtab
 obtain ⟨e0, e1⟩ := in_one G.ghei
 have HSB := Lib.hid (fun k hk => sumTo_bd (s := tab) (l := pan) ⟨t0, t1⟩ G.gpan k hk)
 obtain ⟨m0, m1⟩ := maxL_bd G.gtop (by omega)
 have HL4 := Lib.hid hl4
 have HGP := Lib.hid G.gpan
 have HL2 := Lib.hid hl2
 have hln : pan.length = 4 := hl4
 clear hl4 hl2 G
 obtain ⟨b0, b1, b2, b3, b4, b5, b6⟩ := hBs.c7
 go_wp2
 go_loopw [20, 2, 6] (fun x y z wr => Hid (∃ (k : Nat) (vv : Value), k ≤ 4 ∧ x = .int .i64 k ∧ y = vv ∧ z = .int .i64 (sumTo tab pan k) ∧ Gr U wr ∧ wr.ownsRow U.heap.size 3 1 vv (placesTo tab pan k).length ((placesTo tab pan k).flatMap encI))) (fun x y z wr => 4 - (intOf x).toNat)
 case atStart => exact Lib.hid ⟨0, _, by omega, rfl, rfl, rfl, Below.refl _ _, World.ownsRow_nil _ _ _ _⟩
 case round =>
  obtain ⟨k, vv, hk, rfl, hvv, rfl, gR, hown⟩ := hrel.out
  obtain rfl := hvv.symm
  clear hrel
  obtain ⟨s0, s1⟩ := HSB.out k (by omega)
  obtain ⟨sk, hsk⟩ : ∃ sk, sumTo tab pan k = sk := ⟨_, rfl⟩
  rw [hsk] at s0 s1 ⊢
  have HSK := Lib.hid hsk
  clear hsk
  by_cases hlt : k < 4
  ·obtain ⟨x, hx⟩ := get_of_lt (show k < pan.length by omega)
   obtain ⟨pb, po, rfl, hpb, hc0⟩ := IRow.get (hp.grow gR) hx
   obtain ⟨x0, x1⟩ := in_at HGP.out hx
   have hsn := sumTo_succ (s := tab) hx
   have HSN := Lib.hid hsn
   have hlen := places_len tab pan k
   have hnx := places_succ tab pan k
   have HNX := Lib.hid hnx
   have hk1 : (placesTo tab pan k).length + 1 ≤ maxLen := by unfold maxLen; omega
   have hk2 : ((placesTo tab pan k).length + 1) * 8 ≤ 140737488355328 := by omega
   have v0 : IntKind.i64.wrap (sk + x) = sk + x := IntWalk.i64_in _ (by omega)
   have hlp : (k : Int) < (pan.length : Int) := by omega
   have hoA := owns_keep hown (Gr.al wr (.cells #[.int .i64 sk] 3))
   clear hsn hnx hx hlen
   go_wp2_with (at_builtin; refine wpList_append_own _ rfl _ _ 22 rfl U.heap.size 3 i0 (.int .i64 0) 1 8 Try.underlying22 hi hz0 hz1 hz2 rfl (by decide) _ _ _ rfl hoA ⟨wr.heap.size, 0, none⟩ 1 1 ([sk].map (fun n => Value.int .i64 n)) rfl rfl (cell_news _ _ _) (ints_one _) hk1 hk2 (gR.tr (Gr.al _ _)).size ?_; intro v' w6 hown' hgrow' _)
   go_roundw
   case rel =>
    have hR : Gr U w6 := (gR.tr (Gr.al _ _)).grown' hoA (Nat.le_refl _) hgrow'
    refine ⟨v', .int .i64 (sk + x), .int .i64 x, .int .i64 ((k : Int) + 1), Lib.hid ⟨k + 1, by omega, by go_num, by rw [HSN.out, HSK.out], hR, ?_⟩, rfl, rfl, rfl, rfl⟩
    rw [HNX.out, flat_snoc, List.length_append, HSK.out]
    exact hown'
   case measure => simp [intOf]; omega
  ·obtain rfl : k = 4 := by omega
   obtain ⟨ra, rc, hv, hr⟩ := owns_row (enc := encI) (l := placesTo tab pan 4) (fun _ => rfl) (by rw [places_len]; omega) hown
   subst hv
   rw [places_len]
   have Hr := Lib.hid hr
   have hBs := hBs.keep gR
   obtain ⟨b0, b1, b2, b3, b4, b5, b6⟩ := hBs.c7
   have hmx := fun (v : World) (h : IRow v ta top) => max_any top (by rw [HL2.out]; omega) ta tc v h
   have HMX := Lib.hid hmx
   have htR := ht.grow gR
   obtain ⟨mx, hmx2⟩ : ∃ mx, maxL top = mx := ⟨_, rfl⟩
   rw [hmx2] at m0 m1 HMX ⊢
   have v1 : IntKind.i64.wrap (mx + hei) = mx + hei := IntWalk.i64_in _ (by omega)
   have HMQ := Lib.hid hmx2
   clear hr hown hmx hmx2
   go_upto_region 12 with (go_at_call 64; refine (HMX.out _ htR).mono ?_; rintro e w7 ⟨rfl, rfl⟩)
   refine (show (∀ s : Nat → Value, Code.wp Try.prog _ _ ⟨#[s 0, .pointer (some ⟨w.heap.size, 0, none⟩), .slice ra 4 rc, .slice none 0 0, .int .i64 0, .int .i64 0, s 6, s 7, s 8, .int .i64 mx, s 10, s 11, s 12, s 13, s 14, s 15, s 16, s 17, s 18, s 19, s 20, s 21, s 22, s 23, s 24, s 25, s 26, s 27, s 28, s 29, s 30, s 31, s 32, s 33, s 34, undef, undef, undef, undef, undef, undef, undef], []⟩ _) → _ from fun h => h ((fun l : List Value => fun i => l.getD i undef) [_, undef, undef, undef, undef, undef, _, _, _, undef, _, _, _, _, _, _, _, _, _, _, _, _, _, _, _, _, _, _, _, _, _, _, _, _, _, undef, undef, undef, undef, undef, undef, undef])) ?_
   intro s
   refine wp_region_facts 8 [(4, 3), (5, 2), (5, 4), (6, 1), (6, 5), (7, 0)] (fun x => ⟨#[s 0, .pointer (some ⟨w.heap.size, 0, none⟩), .slice ra 4 rc, .slice none 0 0, .int .i64 0, .int .i64 0, s 6, s 7, s 8, .int .i64 mx, s 10, s 11, s 12, s 13, s 14, s 15, s 16, s 17, s 18, s 19, s 20, s 21, s 22, s 23, s 24, s 25, s 26, s 27, s 28, s 29, s 30, s 31, s 32, s 33, s 34, x 0, x 1, x 2, x 3, x 4, x 5, x 6], []⟩) (fun _ => undef) [fun _ x => x = .slice ra 4 rc, fun _ x => x = .int .i64 mx, fun _ x => x = .int .i64 mx, fun _ x => x = .pointer (some ⟨w.heap.size, 2, none⟩), fun _ x => x = .int .i64 hei, fun _ x => x = .int .i64 (mx + hei), fun v x => ∃ a, x = .slice a 2 2 ∧ IRow v a [mx, mx + hei], fun _ x => x = .slice ra 4 rc] (by rfl) (by kernel_rfl) (by kernel_rfl) (by kernel_rfl) (stays_cons (Stays.eq _) (stays_cons (Stays.eq _) (stays_cons (Stays.eq _) (stays_cons (Stays.eq _) (stays_cons (Stays.eq _) (stays_cons (Stays.eq _) (stays_cons ((show Stays (fun v x => ∃ a, x = .slice a 2 2 ∧ IRow v a [mx, mx + hei]) from fun v v' x g ⟨a, e, r⟩ => ⟨a, e, r.grow g⟩)) (stays_cons (Stays.eq _) stays_nil)))))))) ?step12 ?fin12
   case step12 =>
    rintro i hi x v gv hd K hK
    have hi8 : i = 0 ∨ i = 1 ∨ i = 2 ∨ i = 3 ∨ i = 4 ∨ i = 5 ∨ i = 6 ∨ i = 7 := by omega
    rcases hi8 with rfl | rfl | rfl | rfl | rfl | rfl | rfl | rfl
    ·try dsimp only [upd, Nat.reduceBEq, cond_true, cond_false]
     refine wpOp_step rfl (fun K' hK' => ?_)
     go_simp
     exact hK' _ _ (hK _ _ (Below.refl _ _) (at_of rfl (rfl)))
    ·try dsimp only [upd, Nat.reduceBEq, cond_true, cond_false]
     refine wpOp_step rfl (fun K' hK' => ?_)
     go_simp
     exact hK' _ _ (hK _ _ (Below.refl _ _) (at_of rfl (rfl)))
    ·try dsimp only [upd, Nat.reduceBEq, cond_true, cond_false]
     refine wpOp_step rfl (fun K' hK' => ?_)
     go_simp
     exact hK' _ _ (hK _ _ (Below.refl _ _) (at_of rfl (rfl)))
    ·try dsimp only [upd, Nat.reduceBEq, cond_true, cond_false]
     refine wpOp_step rfl (fun K' hK' => ?_)
     go_simp
     exact hK' _ _ (hK _ _ (Below.refl _ _) (at_of rfl (rfl)))
    ·obtain ⟨x, rfl⟩ := upd_of (show x 3 = .pointer (some ⟨w.heap.size, 2, none⟩) from hd 3 _ (by simp) rfl)
     try dsimp only [upd, Nat.reduceBEq, cond_true, cond_false]
     refine wpOp_step rfl (fun K' hK' => ?_)
     have q := gv.keep b2
     go_simp
     exact hK' _ _ (hK _ _ (Below.refl _ _) (at_of rfl (rfl)))
    ·obtain ⟨x, rfl⟩ := upd_of (show x 2 = .int .i64 mx from hd 2 _ (by simp) rfl)
     obtain ⟨x, rfl⟩ := upd_of (show x 4 = .int .i64 hei from hd 4 _ (by simp) rfl)
     try dsimp only [upd, Nat.reduceBEq, cond_true, cond_false]
     refine wpOp_step rfl (fun K' hK' => ?_)
     go_simp
     exact hK' _ _ (hK _ _ (Below.refl _ _) (at_of rfl (rfl)))
    ·obtain ⟨x, rfl⟩ := upd_of (show x 1 = .int .i64 mx from hd 1 _ (by simp) rfl)
     obtain ⟨x, rfl⟩ := upd_of (show x 5 = .int .i64 (mx + hei) from hd 5 _ (by simp) rfl)
     try dsimp only [upd, Nat.reduceBEq, cond_true, cond_false]
     refine wpOp_step rfl (fun K' hK' => ?_)
     go_simp
     have hg := Gr.al v (.cells (List.toArray [.int .i64 mx, .int .i64 (mx + hei)]) 3)
     exact hK' _ _ (hK _ _ hg (at_of rfl (⟨_, rfl, IRow.new' v 3 [mx, mx + hei] (by simp) v.heap.size rfl _ (by rfl)⟩)))
    ·obtain ⟨x, rfl⟩ := upd_of (show x 0 = .slice ra 4 rc from hd 0 _ (by simp) rfl)
     try dsimp only [upd, Nat.reduceBEq, cond_true, cond_false]
     refine wpOp_step rfl (fun K' hK' => ?_)
     go_simp
     exact hK' _ _ (hK _ _ (Below.refl _ _) (at_of rfl (rfl)))
   case fin12 =>
    rintro x v gv hd
    obtain ⟨a6, e6, r6⟩ := hd 6 _ (by omega) rfl
    obtain ⟨x, rfl⟩ := upd_of (show x 6 = .slice a6 2 2 from e6)
    clear hd
    show wpList Try.prog _ _ (List.drop 8 _) (⟨#[_, _, _, _, _, _, _, _, _, _, _, _, _, _, _, _, _, _, _, _, _, _, _, _, _, _, _, _, _, _, _, _, _, _, _, x 0, x 1, x 2, x 3, x 4, x 5, .slice a6 2 2], []⟩ : Act) v
    simp only [List.drop_succ_cons, List.drop_zero]
    go_wp2
    refine bodyPost_ret (v := .tuple #[.slice ra 4 rc, .slice a6 2 2, .int .i64 0]) (by simp [results, Try.results19, go_sem]) rfl ?_
    refine ⟨gU.tr (gR.tr gv), .inr ⟨rfl, ra, rc, a6, 2, ?_, Hr.out.grow gv, by rw [HMQ.out]; exact r6⟩⟩
    rw [places_len]
    rfl

end Go.Proofs.Ytoihnilgmdcndaa

namespace Go.Proofs.Ytoihnilgmdcndaa
set_option linter.unusedVariables false
set_option linter.unusedSimpArgs false
open Go.RowKit

end Go.Proofs.Ytoihnilgmdcndaa

namespace Go.Proofs.Ytoihnilgmdcndaa
set_option linter.unusedVariables false
set_option linter.unusedSimpArgs false
open Go.RowKit

theorem Own.grownRow {w w' : World} {b : Nat} {vs : List Value} {row : Option Nat} (h : Own w b vs) (g : w.grownBy w' row) (hne : ∀ r, row = some r → b ≠ r) : Own w' b vs := by
  have hb := g.block b h.1.1 (fun e => hne b e.symm rfl)
  exact ⟨⟨Nat.lt_of_lt_of_le h.1.1 g.size, fun i v hv => (World.cell?_of_block (w := w) (a := ⟨b, i, none⟩) hb).trans (h.1.2 i v hv)⟩, fun i => (World.frozen?_of_block (w := w) (a := ⟨b, i, none⟩) hb).trans (h.2 i)⟩

end Go.Proofs.Ytoihnilgmdcndaa

namespace Go.Proofs.Ytoihnilgmdcndaa
set_option linter.unusedVariables false
set_option linter.unusedSimpArgs false
open Go.RowKit

theorem owns_other {w : World} {base : Nat} {e : TypeId} {sz : Nat} {v : Value} {n : Nat} {xs : List Value} {c i : Nat} {u : Value} (h : w.ownsRow base e sz v n xs) (hc : c < base) : (w.setCell ⟨c, i, none⟩ u).ownsRow base e sz v n xs := by
  obtain ⟨h1, h2⟩ := h
  refine ⟨h1, ?_⟩
  rcases h2 with h2 | ⟨b, cap, cur, hv, hb, hh, r⟩
  · exact .inl h2
  · exact .inr ⟨b, cap, cur, hv, hb, (Below.heap_setCell _ _ _ _ (show b ≠ c by omega)).trans hh, r⟩

theorem Box.c3 {w : World} {b : Nat} {x0 x1 x2 : Value} (h : Box w b [x0, x1, x2]) : w.cell? ⟨b, 0, none⟩ = some x0 ∧ w.cell? ⟨b, 1, none⟩ = some x1 ∧ w.cell? ⟨b, 2, none⟩ = some x2 := ⟨h.2 0 x0 rfl, h.2 1 x1 rfl, h.2 2 x2 rfl⟩

theorem Box.other {w : World} {b c i : Nat} {vs : List Value} {v : Value} (h : Box w c vs) (hne : c ≠ b) : Box (w.setCell ⟨b, i, none⟩ v) c vs :=
  ⟨by simpa using h.1, fun j u hu => by rw [cell_set_ne v (.inl hne)]; exact h.2 j u hu⟩

end Go.Proofs.Ytoihnilgmdcndaa

namespace Go.Proofs.Ytoihnilgmdcndaa
set_option linter.unusedVariables false
set_option linter.unusedSimpArgs false
open Go.RowKit Go.Shelf
attribute [local go_sem] Oper.semAt_some

/-- A blank's sheet, if the blank has no error. -/
theorem RmOk.of {tab : Int} {R : Rm} (G : GoodB tab R.hei R.slo R.pan R.top R.bot R.opn) (ho : inB 0 5 [R.off] = true) : RmOk R := by
 obtain ⟨o0, o1⟩ := in_one ho
 obtain ⟨h0, h1⟩ := in_one G.ghei
 obtain ⟨s0, s1⟩ := in_one G.gslo
 refine ⟨G.l4, G.t2, G.b2, inB_mono G.gpan (by omega) (by omega), fun v hv => ?_, ⟨by omega, by omega, by omega⟩, G.gtop, G.gbot, ⟨s0, s1⟩, o0, by omega⟩
 obtain ⟨k, hk⟩ := List.getElem?_of_mem hv
 have := in_at G.gpan hk
 omega

/-- Whether the blank can close with a caliper. -/
def mayB (R : Rm) (W : Wi) (c : Int) : Bool := decide ((smallD R W c c).2 = 10)

theorem small_10 (R : Rm) (W : Wi) (c : Int) : ((((smallD R W c c).2 : Nat) : Int) == 10) = mayB R W c := by
 unfold mayB
 by_cases h : (smallD R W c c).2 = 10
 ·rw [decide_eq_true h, beq_iff_eq]; omega
 ·rw [decide_eq_false h, beq_eq_false_iff_ne]; omega

/-- What May returns. -/
def MayPost (R : Rm) (W : Wi) (cl ch tab : Int) (w : World) (e : Ending) (w' : World) : Prop :=
 Gr w w' ∧ ((firstE [checkE tab R.hei R.slo R.pan R.top R.bot R.opn, W.err, measE [⟨cl, ch⟩], if inB 0 5 [R.off] = true then 0 else 7] ≠ 0 ∧ e = .returned (.tuple #[.int .i64 0, .int .i64 (firstE [checkE tab R.hei R.slo R.pan R.top R.bot R.opn, W.err, measE [⟨cl, ch⟩], if inB 0 5 [R.off] = true then 0 else 7])])) ∨
  (firstE [checkE tab R.hei R.slo R.pan R.top R.bot R.opn, W.err, measE [⟨cl, ch⟩], if inB 0 5 [R.off] = true then 0 else 7] = 0 ∧ ∃ k, startAt cl k ≤ ch ∧ (∀ j, j < k → mayB R W (startAt cl j) = false) ∧ mayB R W (startAt cl k) = true ∧ e = .returned (.tuple #[.int .i64 (startAt cl k), .int .i64 0])) ∨
  (firstE [checkE tab R.hei R.slo R.pan R.top R.bot R.opn, W.err, measE [⟨cl, ch⟩], if inB 0 5 [R.off] = true then 0 else 7] = 0 ∧ (∃ k, ch < startAt cl k ∧ ∀ j, j < k → mayB R W (startAt cl j) = false) ∧ e = .returned (.tuple #[.int .i64 0, .int .i64 9])))

/-- Between the rounds: none that came can close. -/
def MInv (R : Rm) (W : Wi) (X0 : Nat → Prop) (W4 : World) (pre : List Int) (X' Y : Nat → Prop) (V : World) : Prop :=
 X' = X0 ∧ (∀ k, Y k → W4.heap.size ≤ k) ∧ Gr W4 V ∧ ∀ y ∈ pre, mayB R W y = false

theorem MInv.ab {R : Rm} {W : Wi} {X0 : Nat → Prop} {W4 : World} (pre : List Int) (X' : Nat → Prop) : Ab (MInv R W X0 W4 pre X') := by
 rintro Y Y' A B ⟨h1, h2, h3, h4⟩ hk hy
 have hs := h3.size
 refine ⟨h1, fun i e => ?_, Kx.toGr ((Kx.gr (Z := noBlock) h3).th hk fun i e => .inr (h2 i e)), h4⟩
 rcases hy i e with e | e
 ·exact h2 i e
 ·omega

/-- One that came can. -/
def MFnd (R : Rm) (W : Wi) (X0 : Nat → Prop) (W4 : World) (b8 b9 : Nat) (c : Code) (pre : List Int) (Y : Nat → Prop) (V : World) : Prop :=
 c = .ret ∧ (∀ k, Y k → W4.heap.size ≤ k) ∧ Kx X0 W4 V ∧ ∃ pre' x, pre = pre' ++ [x] ∧ (∀ y ∈ pre', mayB R W y = false) ∧ mayB R W x = true ∧ Own V b8 [.int .i64 x] ∧ Own V b9 [.int .i64 0]

theorem MFnd.ab {R : Rm} {W : Wi} {X0 : Nat → Prop} {W4 : World} {b8 b9 : Nat} (l8 : b8 < W4.heap.size) (l9 : b9 < W4.heap.size) (c : Code) (pre : List Int) : Ab (MFnd R W X0 W4 b8 b9 c pre) := by
 rintro Y Y' A B ⟨h1, h2, h3, pre', x, h4, h5, h6, h7, h8⟩ hk hy
 have hs := h3.size
 refine ⟨h1, fun i e => ?_, h3.th hk fun i e => .inr (h2 i e), pre', x, h4, h5, h6, h7.kx hk fun e => ?_, h8.kx hk fun e => ?_⟩
 ·rcases hy i e with e | e
  ·exact h2 i e
  ·omega
 ·have := h2 _ e; omega
 ·have := h2 _ e; omega

theorem comeTo_at {f : Nat → Int} {k : Nat} {pre : List Int} {x : Int} (h : pre ++ [x] = comeTo f k) : ∃ n, n + 1 = k ∧ x = f n ∧ pre = comeTo f n := by
 have hl : pre.length + 1 = k := by
  have := congrArg List.length h
  rw [comeTo_len] at this
  simpa using this
 refine ⟨pre.length, hl, ?_⟩
 rw [← hl, comeTo_succ] at h
 have := List.append_inj h (by rw [comeTo_len])
 exact ⟨by simpa using this.2, this.1⟩

theorem comeTo_mem {f : Nat → Int} {k j : Nat} (h : j < k) : f j ∈ comeTo f k := List.mem_map.2 ⟨j, List.mem_range.2 h, rfl⟩

set_option maxRecDepth 100000 in
set_option maxHeartbeats 8000000 in
theorem may_any (R : Rm) (W : Wi) (cl ch tab : Int) (pa ta ba : Option Addr) (pc tc bc : Nat) (w : World) (hp : IRow w pa R.pan) (ht : IRow w ta R.top) (hb : IRow w ba R.bot) :
  Calls Try.prog 48 #[.agg #[.int .i64 tab, .slice pa R.pan.length pc, .int .i64 R.hei, .slice ta R.top.length tc, .slice ba R.bot.length bc, .int .i64 R.slo, .bool R.opn], .agg #[.int .i64 W.ll, .int .i64 W.lh, .int .i64 W.wl, .int .i64 W.wh, .int .i64 W.hl, .int .i64 W.hh, .int .i64 W.ol, .int .i64 W.oh, .int .i64 W.il, .int .i64 W.ih, .bool W.wo], .agg #[.int .i64 cl, .int .i64 ch], .int .i64 R.off] w (MayPost R W cl ch tab w) := by
 refine (callsIn_wide (n := 20)).1 ?_
 have gg := (((Gr.al w (.cells #[.int .i64 tab, .slice pa R.pan.length pc, .int .i64 R.hei, .slice ta R.top.length tc, .slice ba R.bot.length bc, .int .i64 R.slo, .bool R.opn] 24)).tr (Gr.al _ (.cells #[.int .i64 W.ll, .int .i64 W.lh, .int .i64 W.wl, .int .i64 W.wh, .int .i64 W.hl, .int .i64 W.hh, .int .i64 W.ol, .int .i64 W.oh, .int .i64 W.il, .int .i64 W.ih, .bool W.wo] 48))).tr (Gr.al _ (.cells #[.int .i64 cl, .int .i64 ch] 37))).tr ((Gr.al _ (.cells #[.int .i64 0] 3)).tr (Gr.al _ (.cells #[.int .i64 0] 28)))
 have g3 := (Gr.al (((w.alloc (.cells #[.int .i64 tab, .slice pa R.pan.length pc, .int .i64 R.hei, .slice ta R.top.length tc, .slice ba R.bot.length bc, .int .i64 R.slo, .bool R.opn] 24)).alloc (.cells #[.int .i64 W.ll, .int .i64 W.lh, .int .i64 W.wl, .int .i64 W.wh, .int .i64 W.hl, .int .i64 W.hh, .int .i64 W.ol, .int .i64 W.oh, .int .i64 W.il, .int .i64 W.ih, .bool W.wo] 48)).alloc (.cells #[.int .i64 cl, .int .i64 ch] 37)) (.cells #[.int .i64 0] 3)).tr (Gr.al _ (.cells #[.int .i64 0] 28))
 have hBs := (Box.new w [.int .i64 tab, .slice pa R.pan.length pc, .int .i64 R.hei, .slice ta R.top.length tc, .slice ba R.bot.length bc, .int .i64 R.slo, .bool R.opn] 24 w.heap.size rfl).keep ((Gr.al _ (.cells #[.int .i64 W.ll, .int .i64 W.lh, .int .i64 W.wl, .int .i64 W.wh, .int .i64 W.hl, .int .i64 W.hh, .int .i64 W.ol, .int .i64 W.oh, .int .i64 W.il, .int .i64 W.ih, .bool W.wo] 48)).tr ((Gr.al _ (.cells #[.int .i64 cl, .int .i64 ch] 37)).tr g3))
 have hWs := (Box.new (w.alloc (.cells #[.int .i64 tab, .slice pa R.pan.length pc, .int .i64 R.hei, .slice ta R.top.length tc, .slice ba R.bot.length bc, .int .i64 R.slo, .bool R.opn] 24)) [.int .i64 W.ll, .int .i64 W.lh, .int .i64 W.wl, .int .i64 W.wh, .int .i64 W.hl, .int .i64 W.hh, .int .i64 W.ol, .int .i64 W.oh, .int .i64 W.il, .int .i64 W.ih, .bool W.wo] 48 (w.heap.size + 1) (by simp)).keep ((Gr.al _ (.cells #[.int .i64 cl, .int .i64 ch] 37)).tr g3)
 have hCs := (Box.new ((w.alloc (.cells #[.int .i64 tab, .slice pa R.pan.length pc, .int .i64 R.hei, .slice ta R.top.length tc, .slice ba R.bot.length bc, .int .i64 R.slo, .bool R.opn] 24)).alloc (.cells #[.int .i64 W.ll, .int .i64 W.lh, .int .i64 W.wl, .int .i64 W.wh, .int .i64 W.hl, .int .i64 W.hh, .int .i64 W.ol, .int .i64 W.oh, .int .i64 W.il, .int .i64 W.ih, .bool W.wo] 48)) [.int .i64 cl, .int .i64 ch] 37 (w.heap.size + 1 + 1) (by simp)).keep g3
 have o8 := (Own.new (((w.alloc (.cells #[.int .i64 tab, .slice pa R.pan.length pc, .int .i64 R.hei, .slice ta R.top.length tc, .slice ba R.bot.length bc, .int .i64 R.slo, .bool R.opn] 24)).alloc (.cells #[.int .i64 W.ll, .int .i64 W.lh, .int .i64 W.wl, .int .i64 W.wh, .int .i64 W.hl, .int .i64 W.hh, .int .i64 W.ol, .int .i64 W.oh, .int .i64 W.il, .int .i64 W.ih, .bool W.wo] 48)).alloc (.cells #[.int .i64 cl, .int .i64 ch] 37)) [.int .i64 0] 3 (w.heap.size + 1 + 1 + 1) (by simp)).keep (Gr.al _ (.cells #[.int .i64 0] 28))
 have o9 := Own.new ((((w.alloc (.cells #[.int .i64 tab, .slice pa R.pan.length pc, .int .i64 R.hei, .slice ta R.top.length tc, .slice ba R.bot.length bc, .int .i64 R.slo, .bool R.opn] 24)).alloc (.cells #[.int .i64 W.ll, .int .i64 W.lh, .int .i64 W.wl, .int .i64 W.wh, .int .i64 W.hl, .int .i64 W.hh, .int .i64 W.ol, .int .i64 W.oh, .int .i64 W.il, .int .i64 W.ih, .bool W.wo] 48)).alloc (.cells #[.int .i64 cl, .int .i64 ch] 37)).alloc (.cells #[.int .i64 0] 3)) [.int .i64 0] 28 (w.heap.size + 1 + 1 + 1 + 1) (by simp)
 obtain ⟨eB, heB⟩ : ∃ e, checkE tab R.hei R.slo R.pan R.top R.bot R.opn = e := ⟨_, rfl⟩
 obtain ⟨eW, heW⟩ : ∃ e, W.err = e := ⟨_, rfl⟩
 obtain ⟨eM, heM⟩ : ∃ e, measE [⟨cl, ch⟩] = e := ⟨_, rfl⟩
 obtain ⟨eK, heK⟩ : ∃ e, (if inB 0 5 [R.off] = true then 0 else 7 : Int) = e := ⟨_, rfl⟩
 obtain ⟨E, heE⟩ : ∃ e, firstE [eB, eW, eM, eK] = e := ⟨_, rfl⟩
 have HPost : Hid (∀ e w', (MayPost R W cl ch tab w e w' ↔ Gr w w' ∧ ((E ≠ 0 ∧ e = .returned (.tuple #[.int .i64 0, .int .i64 E])) ∨
  (E = 0 ∧ ∃ k, startAt cl k ≤ ch ∧ (∀ j, j < k → mayB R W (startAt cl j) = false) ∧ mayB R W (startAt cl k) = true ∧ e = .returned (.tuple #[.int .i64 (startAt cl k), .int .i64 0])) ∨
  (E = 0 ∧ (∃ k, ch < startAt cl k ∧ ∀ j, j < k → mayB R W (startAt cl j) = false) ∧ e = .returned (.tuple #[.int .i64 0, .int .i64 9]))))) := Lib.hid (by
  intro e w'
  unfold MayPost
  rw [heB, heW, heM, heK, heE])
 have cB := fun v (h1 : IRow v pa R.pan) (h2 : IRow v ta R.top) (h3 : IRow v ba R.bot) => blank_any tab R.hei R.slo R.pan R.top R.bot pa ta ba pc tc bc R.opn v h1 h2 h3
 rw [heB] at cB
 have cW := fun v => wiErr_any W v
 rw [heW] at cW
 have cM := fun a v (h : SRow v a [⟨cl, ch⟩]) => measured_one cl ch a 1 v h
 rw [heM] at cM
 have cK := fun v => known2_any R.off v
 rw [heK] at cK
 have cE := fun a v (h : IRow v a [eB, eW, eM, eK]) => first_4 eB eW eM eK a 4 v h
 rw [heE] at cE
 have CB := Lib.hid cB
 have CW := Lib.hid cW
 have CM := Lib.hid cM
 have CK := Lib.hid cK
 have CE := Lib.hid cE
 have HG0 : Hid (E = 0 → W.ok ∧ RmOk R ∧ 1 ≤ cl ∧ ch ≤ 10000) := Lib.hid (fun h => by
  have hz := firstE_0 (heE.trans h)
  have hK : inB 0 5 [R.off] = true := by
   have := heK.trans (hz eK (by simp))
   split at this
   ·assumption
   ·cases this
  have hM := heM.trans (hz eM (by simp))
  unfold measE at hM
  split at hM
  case isFalse => cases hM
  rename_i hm
  simp only [List.all_cons, List.all_nil, Bool.and_true, okSp, okSpan, inB, in1, Bool.and_eq_true, decide_eq_true_eq] at hm
  exact ⟨Wi.ok_of (heW.trans (hz eW (by simp))), RmOk.of (good_of (heB.trans (hz eB (by simp)))) hK, by omega, by omega⟩)
 have HP := Lib.hid hp
 have HT := Lib.hid ht
 have HB := Lib.hid hb
 clear cB cW cM cK cE heB heW heM heK heE hp ht hb
 refine callsIn_of_wp_marks Try.func48 rfl trivial ?_ rfl
 simp only [Try.ntmps48, List.size_toArray, List.length_cons, List.length_nil, Nat.reduceAdd, Nat.reduceSub, Array.replicate_succ, Array.replicate_zero, List.push_toArray, List.append_toArray, List.nil_append, List.cons_append]
 refine wpIn_wide.2 ?_
 go_upto_region 1 with fail
 refine wp_abs (fun U => Gr w U ∧ Box U w.heap.size [.int .i64 tab, .slice pa R.pan.length pc, .int .i64 R.hei, .slice ta R.top.length tc, .slice ba R.bot.length bc, .int .i64 R.slo, .bool R.opn] ∧ Box U (w.heap.size + 1) [.int .i64 W.ll, .int .i64 W.lh, .int .i64 W.wl, .int .i64 W.wh, .int .i64 W.hl, .int .i64 W.hh, .int .i64 W.ol, .int .i64 W.oh, .int .i64 W.il, .int .i64 W.ih, .bool W.wo] ∧ Box U (w.heap.size + 1 + 1) [.int .i64 cl, .int .i64 ch] ∧ Own U (w.heap.size + 1 + 1 + 1) [.int .i64 0] ∧ Own U (w.heap.size + 1 + 1 + 1 + 1) [.int .i64 0]) ⟨gg, hBs, hWs, hCs, o8, o9⟩ ?_
 clear gg g3 hBs hWs hCs o8 o9
 rintro U ⟨gU, hBs, hWs, hCs, o8, o9⟩
 refine wp_region_facts 11 [(1, 0), (3, 2), (5, 4), (6, 5), (8, 7), (9, 1), (9, 3), (9, 6), (9, 8), (10, 9)] (fun x => ⟨#[.agg #[.int .i64 tab, .slice pa R.pan.length pc, .int .i64 R.hei, .slice ta R.top.length tc, .slice ba R.bot.length bc, .int .i64 R.slo, .bool R.opn], .agg #[.int .i64 W.ll, .int .i64 W.lh, .int .i64 W.wl, .int .i64 W.wh, .int .i64 W.hl, .int .i64 W.hh, .int .i64 W.ol, .int .i64 W.oh, .int .i64 W.il, .int .i64 W.ih, .bool W.wo], .agg #[.int .i64 cl, .int .i64 ch], .int .i64 R.off, .pointer (some ⟨w.heap.size, 0, none⟩), .pointer (some ⟨(w.heap.size + 1), 0, none⟩), .pointer (some ⟨(w.heap.size + 1 + 1), 0, none⟩), undef, .pointer (some ⟨(w.heap.size + 1 + 1 + 1), 0, none⟩), .pointer (some ⟨(w.heap.size + 1 + 1 + 1 + 1), 0, none⟩), undef, undef, undef, undef, undef, x 0, x 1, x 2, x 3, x 4, x 5, x 6, x 7, x 8, x 9, x 10, undef, undef, undef, undef, undef, undef, undef, undef, undef, undef, undef, undef, undef, undef, undef, undef, undef, undef, undef, undef, undef, undef], []⟩) (fun _ => undef) [fun _ x => x = .agg #[.int .i64 tab, .slice pa R.pan.length pc, .int .i64 R.hei, .slice ta R.top.length tc, .slice ba R.bot.length bc, .int .i64 R.slo, .bool R.opn], fun _ x => x = .int .i64 eB, fun _ x => x = .agg #[.int .i64 W.ll, .int .i64 W.lh, .int .i64 W.wl, .int .i64 W.wh, .int .i64 W.hl, .int .i64 W.hh, .int .i64 W.ol, .int .i64 W.oh, .int .i64 W.il, .int .i64 W.ih, .bool W.wo], fun _ x => x = .int .i64 eW, fun _ x => x = .agg #[.int .i64 cl, .int .i64 ch], fun v x => ∃ a, x = .slice a 1 1 ∧ SRow v a [⟨cl, ch⟩], fun _ x => x = .int .i64 eM, fun _ x => x = .int .i64 R.off, fun _ x => x = .int .i64 eK, fun v x => ∃ a, x = .slice a 4 4 ∧ IRow v a [eB, eW, eM, eK], fun _ x => x = .int .i64 E] (by rfl) (by kernel_rfl) (by kernel_rfl) (by kernel_rfl) (stays_cons (Stays.eq _) (stays_cons (Stays.eq _) (stays_cons (Stays.eq _) (stays_cons (Stays.eq _) (stays_cons (Stays.eq _) (stays_cons ((show Stays (fun v x => ∃ a, x = .slice a 1 1 ∧ SRow v a [⟨cl, ch⟩]) from fun v v' x g ⟨a, e, r⟩ => ⟨a, e, r.grow g⟩)) (stays_cons (Stays.eq _) (stays_cons (Stays.eq _) (stays_cons (Stays.eq _) (stays_cons ((show Stays (fun v x => ∃ a, x = .slice a 4 4 ∧ IRow v a [eB, eW, eM, eK]) from fun v v' x g ⟨a, e, r⟩ => ⟨a, e, r.grow g⟩)) (stays_cons (Stays.eq _) stays_nil))))))))))) ?step1 ?fin1
 case step1 =>
  rintro i hi x v gv hd K hK
  have hi8 : i = 0 ∨ i = 1 ∨ i = 2 ∨ i = 3 ∨ i = 4 ∨ i = 5 ∨ i = 6 ∨ i = 7 ∨ i = 8 ∨ i = 9 ∨ i = 10 := by omega
  rcases hi8 with rfl | rfl | rfl | rfl | rfl | rfl | rfl | rfl | rfl | rfl | rfl
  ·try dsimp only [upd, Nat.reduceBEq, cond_true, cond_false]
   refine wpOp_step rfl (fun K' hK' => ?_)
   rw [if_pos (by rfl)]
   refine wp_load_mid 24 _ rfl w.heap.size 0 (by rfl) [.int .i64 tab, .slice pa R.pan.length pc, .int .i64 R.hei, .slice ta R.top.length tc, .slice ba R.bot.length bc, .int .i64 R.slo, .bool R.opn] _ (fun j u hu => by rw [Nat.zero_add]; exact (hBs.keep gv).2 j u hu) Try.underlying24 rfl (by kernel_rfl) ?_
   exact hK' _ _ (hK _ _ (Below.refl _ _) (at_of rfl (rfl)))
  ·obtain ⟨x, rfl⟩ := upd_of (show x 0 = .agg #[.int .i64 tab, .slice pa R.pan.length pc, .int .i64 R.hei, .slice ta R.top.length tc, .slice ba R.bot.length bc, .int .i64 R.slo, .bool R.opn] from hd 0 _ (by simp) rfl)
   try dsimp only [upd, Nat.reduceBEq, cond_true, cond_false]
   refine wpOp_step rfl (fun K' hK' => ?_)
   go_simp
   refine (CB.out v (HP.out.grow (gU.tr gv)) (HT.out.grow (gU.tr gv)) (HB.out.grow (gU.tr gv))).mono ?_
   rintro e v' ⟨rfl, hg⟩
   exact hK' _ _ (hK _ _ hg (at_of rfl (rfl)))
  ·try dsimp only [upd, Nat.reduceBEq, cond_true, cond_false]
   refine wpOp_step rfl (fun K' hK' => ?_)
   rw [if_pos (by rfl)]
   refine wp_load_mid 48 _ rfl (w.heap.size + 1) 0 (by rfl) [.int .i64 W.ll, .int .i64 W.lh, .int .i64 W.wl, .int .i64 W.wh, .int .i64 W.hl, .int .i64 W.hh, .int .i64 W.ol, .int .i64 W.oh, .int .i64 W.il, .int .i64 W.ih, .bool W.wo] _ (fun j u hu => by rw [Nat.zero_add]; exact (hWs.keep gv).2 j u hu) Try.underlying48 rfl (by kernel_rfl) ?_
   exact hK' _ _ (hK _ _ (Below.refl _ _) (at_of rfl (rfl)))
  ·obtain ⟨x, rfl⟩ := upd_of (show x 2 = .agg #[.int .i64 W.ll, .int .i64 W.lh, .int .i64 W.wl, .int .i64 W.wh, .int .i64 W.hl, .int .i64 W.hh, .int .i64 W.ol, .int .i64 W.oh, .int .i64 W.il, .int .i64 W.ih, .bool W.wo] from hd 2 _ (by simp) rfl)
   try dsimp only [upd, Nat.reduceBEq, cond_true, cond_false]
   refine wpOp_step rfl (fun K' hK' => ?_)
   go_simp
   refine (CW.out v).mono ?_
   rintro e v' ⟨rfl, hg⟩
   exact hK' _ _ (hK _ _ hg (at_of rfl (rfl)))
  ·try dsimp only [upd, Nat.reduceBEq, cond_true, cond_false]
   refine wpOp_step rfl (fun K' hK' => ?_)
   rw [if_pos (by rfl)]
   refine wp_load_mid 37 _ rfl (w.heap.size + 1 + 1) 0 (by rfl) [.int .i64 cl, .int .i64 ch] _ (fun j u hu => by rw [Nat.zero_add]; exact (hCs.keep gv).2 j u hu) Try.underlying37 rfl (by kernel_rfl) ?_
   exact hK' _ _ (hK _ _ (Below.refl _ _) (at_of rfl (rfl)))
  ·obtain ⟨x, rfl⟩ := upd_of (show x 4 = .agg #[.int .i64 cl, .int .i64 ch] from hd 4 _ (by simp) rfl)
   try dsimp only [upd, Nat.reduceBEq, cond_true, cond_false]
   refine wpOp_step rfl (fun K' hK' => ?_)
   go_simp
   have hg := Gr.al v (.cells (List.toArray [.int .i64 cl, .int .i64 ch]) 37)
   exact hK' _ _ (hK _ _ hg (at_of rfl (⟨_, rfl, SRow.new1 v 37 cl ch v.heap.size rfl⟩)))
  ·obtain ⟨a5, e5, r5⟩ := hd 5 _ (by simp) rfl
   obtain ⟨x, rfl⟩ := upd_of (show x 5 = .slice a5 1 1 from e5)
   try dsimp only [upd, Nat.reduceBEq, cond_true, cond_false]
   refine wpOp_step rfl (fun K' hK' => ?_)
   go_simp
   refine (CM.out a5 v r5).mono ?_
   rintro e v' ⟨rfl, hg⟩
   exact hK' _ _ (hK _ _ hg (at_of rfl (rfl)))
  ·try dsimp only [upd, Nat.reduceBEq, cond_true, cond_false]
   refine wpOp_step rfl (fun K' hK' => ?_)
   go_simp
   exact hK' _ _ (hK _ _ (Below.refl _ _) (at_of rfl (rfl)))
  ·obtain ⟨x, rfl⟩ := upd_of (show x 7 = .int .i64 R.off from hd 7 _ (by simp) rfl)
   try dsimp only [upd, Nat.reduceBEq, cond_true, cond_false]
   refine wpOp_step rfl (fun K' hK' => ?_)
   go_simp
   refine (CK.out v).mono ?_
   rintro e v' ⟨rfl, hg⟩
   exact hK' _ _ (hK _ _ hg (at_of rfl (rfl)))
  ·obtain ⟨x, rfl⟩ := upd_of (show x 1 = .int .i64 eB from hd 1 _ (by simp) rfl)
   obtain ⟨x, rfl⟩ := upd_of (show x 3 = .int .i64 eW from hd 3 _ (by simp) rfl)
   obtain ⟨x, rfl⟩ := upd_of (show x 6 = .int .i64 eM from hd 6 _ (by simp) rfl)
   obtain ⟨x, rfl⟩ := upd_of (show x 8 = .int .i64 eK from hd 8 _ (by simp) rfl)
   try dsimp only [upd, Nat.reduceBEq, cond_true, cond_false]
   refine wpOp_step rfl (fun K' hK' => ?_)
   go_simp
   have hg := Gr.al v (.cells (List.toArray [.int .i64 eB, .int .i64 eW, .int .i64 eM, .int .i64 eK]) 28)
   exact hK' _ _ (hK _ _ hg (at_of rfl (⟨_, rfl, IRow.new' v 28 [eB, eW, eM, eK] (by simp) v.heap.size rfl _ (by rfl)⟩)))
  ·obtain ⟨a9, e9, r9⟩ := hd 9 _ (by simp) rfl
   obtain ⟨x, rfl⟩ := upd_of (show x 9 = .slice a9 4 4 from e9)
   try dsimp only [upd, Nat.reduceBEq, cond_true, cond_false]
   refine wpOp_step rfl (fun K' hK' => ?_)
   go_simp
   refine (CE.out a9 v r9).mono ?_
   rintro e v' ⟨rfl, hg⟩
   exact hK' _ _ (hK _ _ hg (at_of rfl (rfl)))
 case fin1 =>
  rintro x v gv hd
  obtain ⟨x, rfl⟩ := upd_of (show x 10 = .int .i64 E from hd 10 _ (by omega) rfl)
  clear hd
  show wpList Try.prog _ _ (List.drop 11 _) (⟨#[_, _, _, _, _, _, _, _, _, _, _, _, _, _, _, x 0, x 1, x 2, x 3, x 4, x 5, x 6, x 7, x 8, x 9, .int .i64 E, _, _, _, _, _, _, _, _, _, _, _, _, _, _, _, _, _, _, _, _, _, _], []⟩ : Act) v
  simp only [List.drop_succ_cons, List.drop_zero]
  have hle : w.heap.size ≤ w.heap.size + 1 + 1 + 1 := by omega
  have hle' : w.heap.size ≤ w.heap.size + 1 + 1 + 1 + 1 := by omega
  have n89 : w.heap.size + 1 + 1 + 1 ≠ w.heap.size + 1 + 1 + 1 + 1 := by omega
  have n98 : w.heap.size + 1 + 1 + 1 + 1 ≠ w.heap.size + 1 + 1 + 1 := by omega
  have gV := gU.tr gv
  have p8 := o8.keep gv
  have p9 := o9.keep gv
  have hBs := hBs.keep gv
  have hWs := hWs.keep gv
  have hCs := hCs.keep gv
  by_cases h0 : E = 0
  case neg =>
   have h0' : (E != 0) = true := by rw [bne_iff_ne]; exact h0
   have H0 := Lib.hid h0
   clear h0
   have q8 := p8.1.c1
   have q9 := p9.1.c1
   have z8 := p8.2 0
   have z9 := p9.2 0
   go_wp2
   have oz := (p8.set (i := 0) (v := .int .i64 0) (by simp)).other (i := 0) (v := .int .i64 E) n89
   have oy := (p9.other (i := 0) (v := .int .i64 0) n98).set (i := 0) (v := .int .i64 E) (by simp)
   have gz := (gV.setCell (p := ⟨w.heap.size + 1 + 1 + 1, 0, none⟩) hle (.int .i64 0)).setCell (p := ⟨w.heap.size + 1 + 1 + 1 + 1, 0, none⟩) hle' (.int .i64 E)
   refine leaves_markS [] _ (by simp) (by simp) fun w' hk => ?_
   have r8 := (oz.kx hk (by simp)).1.c1
   have r9 := (oy.kx hk (by simp)).1.c1
   refine ⟨.tuple #[.int .i64 0, .int .i64 E], by simp [results, Try.results48, go_sem, r8, r9], ?_⟩
   exact (HPost.out _ _).2 ⟨Gr.tr gz (Kx.toGr (hk.mono (by simp))), .inl ⟨H0.out, rfl⟩⟩
  subst h0
  obtain ⟨hW, hR, l1, h10⟩ := HG0.out rfl
  clear HG0
  obtain ⟨b0, b1, b2, b3, b4, b5, b6⟩ := hBs.c7
  obtain ⟨s0, s1⟩ := hCs.c2
  go_upto_region 5 with (go_at_call 68; refine (layS_any tab R.hei R.slo R.off R.pan R.top R.bot pa ta ba pc tc bc R.opn _).mono ?_; rintro e w4 ⟨rfl, g4⟩)
  clear b0 b1 b2 b3 b4 b5 b6 s0 s1
  have gA := g4.tr (Gr.al w4 (.cells #[.int .i64 tab, .slice pa R.pan.length pc, .int .i64 R.hei, .slice ta R.top.length tc, .slice ba R.bot.length bc, .int .i64 R.slo, .bool R.opn, .int .i64 R.off, .slice ta R.top.length tc, .slice ba R.bot.length bc] 124))
  have bX := Box.new w4 [.int .i64 tab, .slice pa R.pan.length pc, .int .i64 R.hei, .slice ta R.top.length tc, .slice ba R.bot.length bc, .int .i64 R.slo, .bool R.opn, .int .i64 R.off, .slice ta R.top.length tc, .slice ba R.bot.length bc] 124 w4.heap.size rfl
  have l44 : w.heap.size + 1 + 1 + 1 + 1 < w4.heap.size := by have := p9.1.1; have := g4.size; omega
  refine wp_abs (fun V => Gr w V ∧ Box V (w.heap.size + 1) [.int .i64 W.ll, .int .i64 W.lh, .int .i64 W.wl, .int .i64 W.wh, .int .i64 W.hl, .int .i64 W.hh, .int .i64 W.ol, .int .i64 W.oh, .int .i64 W.il, .int .i64 W.ih, .bool W.wo] ∧ Box V (w.heap.size + 1 + 1) [.int .i64 cl, .int .i64 ch] ∧ Own V (w.heap.size + 1 + 1 + 1) [.int .i64 0] ∧ Own V (w.heap.size + 1 + 1 + 1 + 1) [.int .i64 0] ∧ Box V w4.heap.size [.int .i64 tab, .slice pa R.pan.length pc, .int .i64 R.hei, .slice ta R.top.length tc, .slice ba R.bot.length bc, .int .i64 R.slo, .bool R.opn, .int .i64 R.off, .slice ta R.top.length tc, .slice ba R.bot.length bc]) ⟨gV.tr gA, hWs.keep gA, hCs.keep gA, p8.keep gA, p9.keep gA, bX⟩ ?_
  clear gV hBs hWs hCs p8 p9 gA bX g4 gv o8 o9 gU
  rintro V ⟨gV, hWs, hCs, o8, o9, bX⟩
  obtain ⟨s0, s1⟩ := hCs.c2
  go_wp2_with (go_at_call 86; refine (starts_any cl ch _).mono ?_; rintro e W6 ⟨b, rfl, hb, hO, g6⟩)
  refine (show (∀ s : Nat → Value, Code.wp Try.prog _ _ ⟨#[.agg #[.int .i64 tab, .slice pa R.pan.length pc, .int .i64 R.hei, .slice ta R.top.length tc, .slice ba R.bot.length bc, .int .i64 R.slo, .bool R.opn], .agg #[.int .i64 W.ll, .int .i64 W.lh, .int .i64 W.wl, .int .i64 W.wh, .int .i64 W.hl, .int .i64 W.hh, .int .i64 W.ol, .int .i64 W.oh, .int .i64 W.il, .int .i64 W.ih, .bool W.wo], .agg #[.int .i64 cl, .int .i64 ch], .int .i64 R.off, .pointer (some ⟨w.heap.size, 0, none⟩), .pointer (some ⟨(w.heap.size + 1), 0, none⟩), .pointer (some ⟨(w.heap.size + 1 + 1), 0, none⟩), undef, .pointer (some ⟨(w.heap.size + 1 + 1 + 1), 0, none⟩), .pointer (some ⟨(w.heap.size + 1 + 1 + 1 + 1), 0, none⟩), s 10, .pointer (some ⟨w4.heap.size, 0, none⟩), undef, undef, undef, s 15, s 16, s 17, s 18, s 19, s 20, s 21, s 22, s 23, s 24, s 25, s 26, s 27, s 28, s 29, s 30, s 31, s 32, .func (.func 112) #[] #[.pointer (some ⟨b, 0, none⟩)], undef, undef, undef, undef, undef, undef, undef, undef, undef, undef, undef, undef, undef, undef], []⟩ _) → _ from fun h => h ((fun l : List Value => fun i => l.getD i undef) [undef, undef, undef, undef, undef, undef, undef, undef, undef, undef, _, undef, undef, undef, undef, _, _, _, _, _, _, _, _, _, _, _, _, _, _, _, _, _, _])) ?_
  intro s
  refine (wpIn_wide (n := 20)).1 ?_
  clear s0 s1
  have l6 : w.heap.size + 1 + 1 + 1 + 1 < W6.heap.size := by have := o9.1.1; have := g6.size; omega
  have hbV : w.heap.size + 1 + 1 + 1 + 1 < b := by have := o9.1.1; omega
  obtain ⟨X0, hX0⟩ : ∃ X0 : Nat → Prop, X0 = fun k => k = w.heap.size + 1 + 1 + 1 ∨ k = w.heap.size + 1 + 1 + 1 + 1 := ⟨_, rfl⟩
  have x0 : ∀ k, X0 k → k = w.heap.size + 1 + 1 + 1 ∨ k = w.heap.size + 1 + 1 + 1 + 1 := fun k e => by rw [hX0] at e; exact e
  have x8 : X0 (w.heap.size + 1 + 1 + 1) := by rw [hX0]; exact .inl rfl
  have x9 : X0 (w.heap.size + 1 + 1 + 1 + 1) := by rw [hX0]; exact .inr rfl
  clear hX0
  have nb : ¬ X0 b := fun e => by rcases x0 _ e with e | e <;> omega
  have HWs := Lib.hid (hWs.keep g6)
  have HXs := Lib.hid (bX.keep g6)
  have O8 := Lib.hid (o8.keep g6)
  have O9 := Lib.hid (o9.keep g6)
  have GW := Lib.hid (gV.tr g6)
  have HOst : Hid (St X0 (fun V => Own V b [.int .i64 cl, .int .i64 ch]) W6) := Lib.hid (hO.st nb)
  clear hWs hCs o8 o9 bX gV g6 hO
  refine wpIn_rangeX (F := Fence.wide) rfl (by omega) (gf := 112) (lb := #[.pointer (some ⟨b, 0, none⟩)]) rfl trivial (enters_of Try.func112 (by kernel_rfl) rfl)
   (starts_seq 19 (by omega) b cl ch l1 (by omega) X0 W6 HOst.out) (Kx.refl _ _) (fun _ => rfl) X0 (fun k e => ⟨by rcases x0 _ e with e | e <;> omega, .inl e⟩)
   (MInv R W X0 W6) (MFnd R W X0 W6 (w.heap.size + 1 + 1 + 1) (w.heap.size + 1 + 1 + 1 + 1)) (fun s' X' => MInv.ab s' X') (fun c s' => MFnd.ab (by omega) l6 c s') ?start
   (fun pre x a' X' Y W' => MInv R W X0 W6 pre X' Y W' ∧ x = startAt cl pre.length ∧ x ≤ ch ∧ a' = ⟨#[.agg #[.int .i64 tab, .slice pa R.pan.length pc, .int .i64 R.hei, .slice ta R.top.length tc, .slice ba R.bot.length bc, .int .i64 R.slo, .bool R.opn], .agg #[.int .i64 W.ll, .int .i64 W.lh, .int .i64 W.wl, .int .i64 W.wh, .int .i64 W.hl, .int .i64 W.hh, .int .i64 W.ol, .int .i64 W.oh, .int .i64 W.il, .int .i64 W.ih, .bool W.wo], .agg #[.int .i64 cl, .int .i64 ch], .int .i64 R.off, .pointer (some ⟨w.heap.size, 0, none⟩), .pointer (some ⟨(w.heap.size + 1), 0, none⟩), .pointer (some ⟨(w.heap.size + 1 + 1), 0, none⟩), undef, .pointer (some ⟨(w.heap.size + 1 + 1 + 1), 0, none⟩), .pointer (some ⟨(w.heap.size + 1 + 1 + 1 + 1), 0, none⟩), s 10, .pointer (some ⟨w4.heap.size, 0, none⟩), .int .i64 x, undef, undef, s 15, s 16, s 17, s 18, s 19, s 20, s 21, s 22, s 23, s 24, s 25, s 26, s 27, s 28, s 29, s 30, s 31, s 32, .func (.func 112) #[] #[.pointer (some ⟨b, 0, none⟩)], .int .i64 x, undef, undef, undef, undef, undef, undef, undef, undef, undef, undef, undef, undef, undef], []⟩) ?abA ?assign ?body ?done ?stop
  case start => exact ⟨rfl, fun k e => e.elim, Below.refl _ _, fun y hy => by cases hy⟩
  case abA =>
   rintro s' x a' X' Y Y' A B ⟨h1, h2, h3, h4⟩ hk hy
   exact ⟨MInv.ab _ _ _ _ _ _ h1 hk hy, h2, h3, h4⟩
  case assign =>
   rintro l1' pre x X' Y W' K hI hG hDj hK
   have HK := Lib.hid hK
   have HI := Lib.hid hI
   have HG := Lib.hid hG
   clear hK hI hG
   dsimp only [encE]
   gi_wp2
   exact HK.out _ X' _ ⟨HI.out, HG.out.1, HG.out.2, rfl⟩ (Kx.refl _ _) (fun k e => ⟨hDj.x _ e, .inl e⟩)
  case body =>
   rintro l0 pre x a' X' Y W' ⟨⟨hXe, hY, h3, hpre⟩, hx, hle2, rfl⟩ hDj hYl hrec
   obtain rfl := hXe.symm
   have HY := Lib.hid hY
   have H3 := Lib.hid h3
   have HPR := Lib.hid hpre
   have bX := HXs.out.keep h3
   have bW := HWs.out.keep h3
   have hsm := fun v (h : Gr w v) => smallest_any tab pa ta ba pc tc bc R W x x hR hW v (HP.out.grow h) (HT.out.grow h) (HB.out.grow h)
   have h10' := small_10 R W x
   have HSM := Lib.hid hsm
   clear hY h3 hpre hx hDj hYl hrec hsm
   obtain ⟨y0, y1, y2, y3, y4, y5, y6, y7, y8, y9⟩ := bX.c10
   have p0 := bW.2 0 _ rfl
   have p1 := bW.2 1 _ rfl
   have p2 := bW.2 2 _ rfl
   have p3 := bW.2 3 _ rfl
   have p4 := bW.2 4 _ rfl
   have p5 := bW.2 5 _ rfl
   have p6 := bW.2 6 _ rfl
   have p7 := bW.2 7 _ rfl
   have p8 := bW.2 8 _ rfl
   have p9 := bW.2 9 _ rfl
   have p10 := bW.2 10 _ rfl
   obtain ⟨⟨d0, f0⟩, hd0⟩ : ∃ r, smallD R W x x = r := ⟨_, rfl⟩
   rw [hd0] at h10' HSM
   clear hd0
   gi_upto_region 8 with (refine ⟨trivial, ?_⟩; gi_at_call 75; refine (CallsIn.inRound l0 (callsIn_wide.2 (HSM.out W' (GW.out.tr H3.out)))).mono ?_; rintro e w8 ⟨P, T, B, rfl, oP, oT, oB, lP, lT, lB, g8⟩; clear oP oT oB)
   have hl8 : W'.heap.size ≤ w8.heap.size := g8.size
   refine wpIn_abs (fun Z => Gr W' Z) (g8.tr (Gr.al _ _)) ?_
   clear y0 y1 y2 y3 y4 y5 y6 y7 y8 y9 p0 p1 p2 p3 p4 p5 p6 p7 p8 p9 p10
   rintro Z gZ
   obtain ⟨mb, hmb⟩ : ∃ mb, mayB R W x = mb := ⟨_, rfl⟩
   rw [hmb] at h10'
   have HMB := Lib.hid hmb
   clear hmb
   have z8 := O8.out.keep (H3.out.tr gZ)
   have z9 := O9.out.keep (H3.out.tr gZ)
   cases mb with
   | false =>
    gi_wp2
    refine ⟨Kx.gr gZ, X0, ⟨rfl, HY.out, H3.out.tr gZ, fun y hy => ?_⟩, fun k e => ⟨?_, .inl e⟩⟩
    ·rcases List.mem_append.1 hy with hy | hy
     ·exact HPR.out y hy
     ·simp only [List.mem_singleton] at hy
      rw [hy]
      exact HMB.out
    ·have h1 := gZ.size
     have h2 := H3.out.size
     rcases x0 _ e with e | e <;> omega
   | true =>
    have q8 := z8.1.c1
    have q9 := z9.1.c1
    have f8 := z8.2 0
    have f9 := z9.2 0
    gi_wp2
    have kk : Kx X0 W' ((Z.setCell ⟨w.heap.size + 1 + 1 + 1, 0, none⟩ (.int .i64 x)).setCell ⟨w.heap.size + 1 + 1 + 1 + 1, 0, none⟩ (.int .i64 0)) :=
     (Kx.gr gZ).tr ((Kx.set (Z := X0) (p := ⟨w.heap.size + 1 + 1 + 1, 0, none⟩) x8 _).tr (Kx.set (Z := X0) (p := ⟨w.heap.size + 1 + 1 + 1 + 1, 0, none⟩) x9 _))
    refine ⟨kk, rfl, HY.out, (Kx.gr H3.out).tr kk, pre, x, rfl, HPR.out, HMB.out, ?_, ?_⟩
    ·exact (z8.set (i := 0) (v := .int .i64 x) (by simp)).other n89
    ·exact (z9.other n98).set (i := 0) (v := .int .i64 0) (by simp)

  case done =>
   rintro Dd xs X' Y W' hDd ⟨k, rfl, hk1, hk2⟩ ⟨hXe, hY, h3, hpre⟩ hYD hKD
   have z8 := O8.out.keep h3
   have z9 := O9.out.keep h3
   have q8 := z8.1.c1
   have q9 := z9.1.c1
   have f8 := z8.2 0
   have f9 := z9.2 0
   have gW := GW.out.tr h3
   have hs3 := h3.size
   have HK := Lib.hid hKD
   have HPR := Lib.hid hpre
   have HK1 := Lib.hid hk1
   clear hKD hpre hk1 hk2 hY hYD hXe
   go_wp2
   have oz := (z8.set (i := 0) (v := .int .i64 0) (by simp)).other (i := 0) (v := .int .i64 9) n89
   have oy := (z9.other (i := 0) (v := .int .i64 0) n98).set (i := 0) (v := .int .i64 9) (by simp)
   have gz := (gW.setCell (p := ⟨w.heap.size + 1 + 1 + 1, 0, none⟩) hle (.int .i64 0)).setCell (p := ⟨w.heap.size + 1 + 1 + 1 + 1, 0, none⟩) hle' (.int .i64 9)
   refine leaves_markS [Dd] _ (fun E hE => ?_) (by simp) fun w' hk => ?_
   ·simp only [List.mem_singleton] at hE
    subst hE
    exact (Below.heap_setCell _ _ _ _ (by dsimp only; omega)).trans ((Below.heap_setCell _ _ _ _ (by dsimp only; omega)).trans HK.out)
   ·have r8 := (oz.kx hk (fun e => by simp only [List.mem_singleton] at e; omega)).1.c1
    have r9 := (oy.kx hk (fun e => by simp only [List.mem_singleton] at e; omega)).1.c1
    refine ⟨.tuple #[.int .i64 0, .int .i64 9], by simp [results, Try.results48, go_sem, r8, r9], ?_⟩
    refine (HPost.out _ _).2 ⟨Kx.toGr ((Kx.gr (Z := noBlock) gz).th hk fun i e => .inr (by simp only [List.mem_singleton] at e; omega)), .inr (.inr ⟨by trivial, ⟨k, HK1.out, fun j hj => HPR.out _ (comeTo_mem hj)⟩, rfl⟩)⟩
  case stop =>
   rintro Dd c pre Y W' hDd ⟨k, hpk, hk2⟩ ⟨rfl, hY, h3, pre', x, hpe, hpre, hmx, z8, z9⟩ hYD hKD
   have hs3 := h3.size
   obtain ⟨n, hn, hxn, hpn⟩ := comeTo_at (hpe.symm.trans hpk)
   have hle3 := hk2 n (by omega)
   have HXN := Lib.hid hxn
   have HPN := Lib.hid hpn
   have HL3 := Lib.hid hle3
   have HPR := Lib.hid hpre
   have HMX := Lib.hid hmx
   clear hxn hpn hle3 hpre hmx hpe hpk hk2 hn
   refine wpIn_wide.2 ?_
   go_wp2
   refine leaves_markS [Dd] _ (fun E hE => ?_) (by simp) fun w' hk => ?_
   ·simp only [List.mem_singleton] at hE
    subst hE
    exact hKD
   ·have r8 := (z8.kx hk (fun e => by simp only [List.mem_singleton] at e; omega)).1.c1
    have r9 := (z9.kx hk (fun e => by simp only [List.mem_singleton] at e; omega)).1.c1
    refine ⟨.tuple #[.int .i64 x, .int .i64 0], by simp [results, Try.results48, go_sem, r8, r9], ?_⟩
    refine (HPost.out _ _).2 ⟨Kx.toGr (((Kx.gr (Z := noBlock) GW.out).th h3 fun i e => .inr (by rcases x0 _ e with e | e <;> omega)).th hk fun i e => .inr (by simp only [List.mem_singleton] at e; omega)), .inr (.inl ⟨by trivial, n, HL3.out, fun j hj => ?_, ?_, ?_⟩)⟩
    ·exact HPR.out _ (by rw [HPN.out]; exact comeTo_mem hj)
    ·rw [← HXN.out]; exact HMX.out
    ·rw [← HXN.out]

end Go.Proofs.Ytoihnilgmdcndaa

namespace Go.Proofs.Ytoihnilgmdcndaa
set_option linter.unusedVariables false
set_option linter.unusedSimpArgs false
open Go.RowKit

theorem span02_any (a b : Int) (w : World) :
  Calls Try.prog 26 #[.int .i64 a, .int .i64 b] w fun e w' => e = .returned (.agg #[.int .i64 a, .int .i64 b]) ∧ Gr w w' := by
 go_enter Try.func26, Try.ntmps26
 go_wp2
 refine bodyPost_ret (v := .agg #[.int .i64 a, .int .i64 b]) (by simp [results, Try.results26, go_sem]) rfl ⟨rfl, Gr.al _ _⟩

def exW : Wi := ⟨300, 301, 200, 201, 200, 202, -3, 0, 0, 200, false⟩

set_option maxRecDepth 100000 in
set_option maxHeartbeats 2000000 in
theorem wish02_any (w : World) :
  Calls Try.prog 61 #[] w fun e w' => e = .returned (.agg #[.int .i64 300, .int .i64 301, .int .i64 200, .int .i64 201, .int .i64 200, .int .i64 202, .int .i64 (-3), .int .i64 0, .int .i64 0, .int .i64 200, .bool false]) ∧ Gr w w' := by
 have gg := Gr.al w (.cells #[.int .i64 0, .int .i64 0, .int .i64 0, .int .i64 0, .int .i64 0, .int .i64 0, .int .i64 0, .int .i64 0, .int .i64 0, .int .i64 0, .bool false] 48)
 have oW := Own.new w [.int .i64 0, .int .i64 0, .int .i64 0, .int .i64 0, .int .i64 0, .int .i64 0, .int .i64 0, .int .i64 0, .int .i64 0, .int .i64 0, .bool false] 48 w.heap.size rfl
 have hle : w.heap.size ≤ w.heap.size := Nat.le_refl _
 go_enter Try.func61, Try.ntmps61
 go_upto_region 1 with fail
 refine wp_abs (fun U => Gr w U ∧ Own U w.heap.size [.int .i64 0, .int .i64 0, .int .i64 0, .int .i64 0, .int .i64 0, .int .i64 0, .int .i64 0, .int .i64 0, .int .i64 0, .int .i64 0, .bool false]) ⟨gg, oW⟩ ?_
 clear gg oW
 rintro U ⟨gg, oW⟩
 have tok0 : True := trivial
 have tok1 : True := trivial
 have tok2 : True := trivial
 have tok3 : True := trivial
 go_wp2_with (first
  | (have _t := tok0; clear tok0 _t; go_at_call 26; refine (span02_any 300 301 _).mono ?_; rintro e w1 ⟨rfl, g1⟩; replace gg := gg.tr g1; replace oW := oW.keep g1)
  | (have _t := tok1; clear tok1 _t; go_at_call 26; refine (span02_any 200 201 _).mono ?_; rintro e w2 ⟨rfl, g2⟩; replace gg := gg.tr g2; replace oW := oW.keep g2)
  | (have _t := tok2; clear tok2 _t; go_at_call 26; refine (span02_any 200 202 _).mono ?_; rintro e w3 ⟨rfl, g3⟩; replace gg := gg.tr g3; replace oW := oW.keep g3)
  | (have _t := tok3; clear tok3 _t; go_at_call 26; refine (span02_any (-3) 0 _).mono ?_; rintro e w4 ⟨rfl, g4⟩; replace gg := gg.tr g4; replace oW := oW.keep g4)
  | (go_at_call 26; refine (span02_any 0 200 _).mono ?_; rintro e w5 ⟨rfl, g5⟩; replace gg := gg.tr g5; replace oW := oW.keep g5; have q0 := oW.1.2 0 _ rfl; have z0 := oW.2 0; have q1 := oW.1.2 1 _ rfl; have z1 := oW.2 1; have q2 := oW.1.2 2 _ rfl; have z2 := oW.2 2; have q3 := oW.1.2 3 _ rfl; have z3 := oW.2 3; have q4 := oW.1.2 4 _ rfl; have z4 := oW.2 4; have q5 := oW.1.2 5 _ rfl; have z5 := oW.2 5; have q6 := oW.1.2 6 _ rfl; have z6 := oW.2 6; have q7 := oW.1.2 7 _ rfl; have z7 := oW.2 7; have q8 := oW.1.2 8 _ rfl; have z8 := oW.2 8; have q9 := oW.1.2 9 _ rfl; have z9 := oW.2 9; have q10 := oW.1.2 10 _ rfl; have z10 := oW.2 10))
 refine bodyPost_ret (v := .agg #[.int .i64 300, .int .i64 301, .int .i64 200, .int .i64 201, .int .i64 200, .int .i64 202, .int .i64 (-3), .int .i64 0, .int .i64 0, .int .i64 200, .bool false]) (by simp [results, Try.results61, go_sem, q0, q1, q2, q3, q4, q5, q6, q7, q8, q9, q10]) rfl ⟨rfl, ?_⟩
 exact (((((((((((gg.setCell (p := ⟨w.heap.size, 0, none⟩) hle _).setCell (p := ⟨w.heap.size, 1, none⟩) hle _).setCell (p := ⟨w.heap.size, 2, none⟩) hle _).setCell (p := ⟨w.heap.size, 3, none⟩) hle _).setCell (p := ⟨w.heap.size, 4, none⟩) hle _).setCell (p := ⟨w.heap.size, 5, none⟩) hle _).setCell (p := ⟨w.heap.size, 6, none⟩) hle _).setCell (p := ⟨w.heap.size, 7, none⟩) hle _).setCell (p := ⟨w.heap.size, 8, none⟩) hle _).setCell (p := ⟨w.heap.size, 9, none⟩) hle _).setCell (p := ⟨w.heap.size, 10, none⟩) hle _)

set_option maxRecDepth 100000 in
set_option maxHeartbeats 2000000 in
theorem box02_any (x y : Int) (w : World) :
  Calls Try.prog 60 #[.int .i64 x, .int .i64 y] w fun e w' => ∃ a b c, e = .returned (.agg #[.int .i64 35, .slice (some ⟨a, 0, none⟩) 4 4, .int .i64 208, .slice (some ⟨b, 0, none⟩) 2 2, .slice (some ⟨c, 0, none⟩) 2 2, .int .i64 6, .bool false]) ∧ IRow w' (some ⟨a, 0, none⟩) [x, y, x, y] ∧ IRow w' (some ⟨b, 0, none⟩) [101, 101] ∧ IRow w' (some ⟨c, 0, none⟩) [101, 101] ∧ Gr w w' := by
 have gg := Gr.al w (.cells #[.int .i64 0, .slice none 0 0, .int .i64 0, .slice none 0 0, .slice none 0 0, .int .i64 0, .bool false] 24)
 have oW := Own.new w [.int .i64 0, .slice none 0 0, .int .i64 0, .slice none 0 0, .slice none 0 0, .int .i64 0, .bool false] 24 w.heap.size rfl
 have hle : w.heap.size ≤ w.heap.size := Nat.le_refl _
 go_enter Try.func60, Try.ntmps60
 go_upto_region 1 with fail
 refine wp_abs (fun U => Gr w U ∧ Own U w.heap.size [.int .i64 0, .slice none 0 0, .int .i64 0, .slice none 0 0, .slice none 0 0, .int .i64 0, .bool false]) ⟨gg, oW⟩ ?_
 clear gg oW
 rintro U ⟨gg, oW⟩
 have lU := oW.1.1
 have g3 := ((Gr.al U (.cells #[.int .i64 x, .int .i64 y, .int .i64 x, .int .i64 y] 3)).tr (Gr.al _ (.cells #[.int .i64 101, .int .i64 101] 3))).tr (Gr.al _ (.cells #[.int .i64 101, .int .i64 101] 3))
 have r1 := (IRow.new' U 3 [x, y, x, y] (by simp) U.heap.size rfl _ (by rfl)).grow ((Gr.al _ (.cells #[.int .i64 101, .int .i64 101] 3)).tr (Gr.al _ (.cells #[.int .i64 101, .int .i64 101] 3)))
 have r2 := (IRow.new' (U.alloc (.cells #[.int .i64 x, .int .i64 y, .int .i64 x, .int .i64 y] 3)) 3 [101, 101] (by simp) (U.heap.size + 1) (by simp) _ (by rfl)).grow (Gr.al _ (.cells #[.int .i64 101, .int .i64 101] 3))
 have r3 := IRow.new' ((U.alloc (.cells #[.int .i64 x, .int .i64 y, .int .i64 x, .int .i64 y] 3)).alloc (.cells #[.int .i64 101, .int .i64 101] 3)) 3 [101, 101] (by simp) (U.heap.size + 1 + 1) (by simp) _ (by rfl)
 have oW := oW.keep g3
 have q0 := oW.1.2 0 _ rfl
 have z0 := oW.2 0
 have q1 := oW.1.2 1 _ rfl
 have z1 := oW.2 1
 have q2 := oW.1.2 2 _ rfl
 have z2 := oW.2 2
 have q3 := oW.1.2 3 _ rfl
 have z3 := oW.2 3
 have q4 := oW.1.2 4 _ rfl
 have z4 := oW.2 4
 have q5 := oW.1.2 5 _ rfl
 have z5 := oW.2 5
 have q6 := oW.1.2 6 _ rfl
 have z6 := oW.2 6
 have R1 := Lib.hid r1
 have R2 := Lib.hid r2
 have R3 := Lib.hid r3
 have G3 := Lib.hid (gg.tr g3)
 clear r1 r2 r3 g3 gg
 go_wp2
 refine bodyPost_ret (v := .agg #[.int .i64 35, .slice (some ⟨U.heap.size, 0, none⟩) 4 4, .int .i64 208, .slice (some ⟨U.heap.size + 1, 0, none⟩) 2 2, .slice (some ⟨U.heap.size + 1 + 1, 0, none⟩) 2 2, .int .i64 6, .bool false]) (by simp [results, Try.results60, go_sem, q0, q1, q2, q3, q4, q5, q6]) rfl ⟨_, _, _, rfl, ?_, ?_, ?_, ?_⟩
 ·exact (RowOf.kx R1.out (((((((((Kx.refl _ _).tr (Kx.set (Z := fun j => j = w.heap.size) (p := ⟨w.heap.size, 0, none⟩) rfl _)).tr (Kx.set (Z := fun j => j = w.heap.size) (p := ⟨w.heap.size, 1, none⟩) rfl _)).tr (Kx.set (Z := fun j => j = w.heap.size) (p := ⟨w.heap.size, 2, none⟩) rfl _)).tr (Kx.set (Z := fun j => j = w.heap.size) (p := ⟨w.heap.size, 3, none⟩) rfl _)).tr (Kx.set (Z := fun j => j = w.heap.size) (p := ⟨w.heap.size, 4, none⟩) rfl _)).tr (Kx.set (Z := fun j => j = w.heap.size) (p := ⟨w.heap.size, 5, none⟩) rfl _)).tr (Kx.set (Z := fun j => j = w.heap.size) (p := ⟨w.heap.size, 6, none⟩) rfl _))) (fun b off e e2 => by injection e with e; injection e with e _; omega))
 ·exact (RowOf.kx R2.out (((((((((Kx.refl _ _).tr (Kx.set (Z := fun j => j = w.heap.size) (p := ⟨w.heap.size, 0, none⟩) rfl _)).tr (Kx.set (Z := fun j => j = w.heap.size) (p := ⟨w.heap.size, 1, none⟩) rfl _)).tr (Kx.set (Z := fun j => j = w.heap.size) (p := ⟨w.heap.size, 2, none⟩) rfl _)).tr (Kx.set (Z := fun j => j = w.heap.size) (p := ⟨w.heap.size, 3, none⟩) rfl _)).tr (Kx.set (Z := fun j => j = w.heap.size) (p := ⟨w.heap.size, 4, none⟩) rfl _)).tr (Kx.set (Z := fun j => j = w.heap.size) (p := ⟨w.heap.size, 5, none⟩) rfl _)).tr (Kx.set (Z := fun j => j = w.heap.size) (p := ⟨w.heap.size, 6, none⟩) rfl _))) (fun b off e e2 => by injection e with e; injection e with e _; omega))
 ·exact (RowOf.kx R3.out (((((((((Kx.refl _ _).tr (Kx.set (Z := fun j => j = w.heap.size) (p := ⟨w.heap.size, 0, none⟩) rfl _)).tr (Kx.set (Z := fun j => j = w.heap.size) (p := ⟨w.heap.size, 1, none⟩) rfl _)).tr (Kx.set (Z := fun j => j = w.heap.size) (p := ⟨w.heap.size, 2, none⟩) rfl _)).tr (Kx.set (Z := fun j => j = w.heap.size) (p := ⟨w.heap.size, 3, none⟩) rfl _)).tr (Kx.set (Z := fun j => j = w.heap.size) (p := ⟨w.heap.size, 4, none⟩) rfl _)).tr (Kx.set (Z := fun j => j = w.heap.size) (p := ⟨w.heap.size, 5, none⟩) rfl _)).tr (Kx.set (Z := fun j => j = w.heap.size) (p := ⟨w.heap.size, 6, none⟩) rfl _))) (fun b off e e2 => by injection e with e; injection e with e _; omega))
 ·have gg := G3.out
  exact (((((((gg.setCell (p := ⟨w.heap.size, 0, none⟩) hle _).setCell (p := ⟨w.heap.size, 1, none⟩) hle _).setCell (p := ⟨w.heap.size, 2, none⟩) hle _).setCell (p := ⟨w.heap.size, 3, none⟩) hle _).setCell (p := ⟨w.heap.size, 4, none⟩) hle _).setCell (p := ⟨w.heap.size, 5, none⟩) hle _).setCell (p := ⟨w.heap.size, 6, none⟩) hle _)

set_option maxRecDepth 100000 in
set_option maxHeartbeats 1000000 in
theorem ints02_any (l m : List Int) (a b : Option Addr) (c d : Nat) (w : World) (hl : IRow w a l) (hm : IRow w b m) :
  Calls Try.prog 22 #[.slice a l.length c, .slice b m.length d] w fun e w' => e = .returned (.bool (decide (l = m))) ∧ Gr w w' := by
 have hl0 := hl.1
 have hm0 := hm.1
 by_cases hlen : l.length = m.length
 ·have hb : ((l.length : Int) != (m.length : Int)) = false := by rw [bne_eq_false_iff_eq]; omega
  go_enter Try.func22, Try.ntmps22
  go_wp2
  go_loopw [5] (fun t wr => Hid (∃ k : Nat, k ≤ l.length ∧ t = .int .i64 k ∧ Gr w wr ∧ l.take k = m.take k)) (fun t _ => l.length - (intOf t).toNat)
  case atStart => exact Lib.hid ⟨0, Nat.zero_le _, rfl, Below.refl _ _, by simp⟩
  case round =>
   obtain ⟨k, hk, rfl, gW, ht⟩ := hrel.out
   clear hrel
   by_cases hlt : k < l.length
   ·obtain ⟨x, hx⟩ : ∃ x, l[k]? = some x := ⟨l[k], by simp [hlt]⟩
    obtain ⟨y, hy⟩ : ∃ y, m[k]? = some y := ⟨m[k], by simp [show k < m.length by omega]⟩
    obtain ⟨b1, o1, rfl, h1, c1⟩ := IRow.get (hl.grow gW) hx
    obtain ⟨b2, o2, rfl, h2, c2⟩ := IRow.get (hm.grow gW) hy
    have hlt2 : k < m.length := by omega
    by_cases hxy : x = y
    ·have hne : (x != y) = false := by simpa using hxy
     have ht' : l.take (k + 1) = m.take (k + 1) := by rw [List.take_add_one, List.take_add_one, hx, hy, ht, hxy]
     have HT := Lib.hid ht'
     clear ht ht' hx hy hxy
     go_upto_region 6 with fail
     go_quiet (fail)
     go_wp2
     go_roundw
     case rel => exact Lib.hid ⟨k + 1, by omega, by go_num, Gr.drewN gW _, HT.out⟩
     case measure => simp [intOf]; omega
    ·have hne : (x != y) = true := by simpa using hxy
     have hD : decide (l = m) = false := by
      rw [decide_eq_false_iff_not]
      intro e
      subst e
      rw [hx] at hy
      cases hy
      exact hxy rfl
     have HD := Lib.hid hD
     clear ht hx hy hxy hD
     go_upto_region 6 with fail
     go_quiet (fail)
     go_wp2
     go_ret
     exact ⟨ret_bool HD.out.symm, Gr.drewN gW _⟩
   ·obtain rfl : k = l.length := by omega
    rw [List.take_length, hlen, List.take_length] at ht
    have hD : decide (l = m) = true := by simpa using ht
    have HD := Lib.hid hD
    clear ht hD
    go_wp2
    go_ret
    exact ⟨ret_bool HD.out.symm, gW⟩
 ·have hb : ((l.length : Int) != (m.length : Int)) = true := by rw [bne_iff_ne]; omega
  have hD : decide (l = m) = false := by
   rw [decide_eq_false_iff_not]
   intro e
   exact hlen (by rw [e])
  have HD := Lib.hid hD
  clear hD
  go_enter Try.func22, Try.ntmps22
  go_wp2
  go_ret
  exact ⟨ret_bool HD.out.symm, Below.refl _ _⟩


/-- A blank: its numbers, where its rows lie. -/
structure Bl where
 tab : Int
 pan : List Int
 hei : Int
 top : List Int
 bot : List Int
 slo : Int
 opn : Bool

def Bl.cells (b : Bl) (pa ta ba : Option Addr) (pc tc bc : Nat) : List Value := [.int .i64 b.tab, .slice pa b.pan.length pc, .int .i64 b.hei, .slice ta b.top.length tc, .slice ba b.bot.length bc, .int .i64 b.slo, .bool b.opn]

/-- The rows of a blank. -/
structure BlAt (b : Bl) (pa ta ba : Option Addr) (w : World) : Prop where
 p : IRow w pa b.pan
 t : IRow w ta b.top
 b : IRow w ba b.bot

theorem BlAt.gr {b : Bl} {pa ta ba : Option Addr} {w w' : World} (h : BlAt b pa ta ba w) (g : Gr w w') : BlAt b pa ta ba w' := ⟨h.p.grow g, h.t.grow g, h.b.grow g⟩

def sameB (x y : Bl) : Bool := (x.tab == y.tab) && (decide (x.pan = y.pan) && ((x.hei == y.hei) && (decide (x.top = y.top) && (decide (x.bot = y.bot) && ((x.slo == y.slo) && (x.opn == y.opn))))))

theorem sameB_iff (x y : Bl) : sameB x y = true ↔ x = y := by
 obtain ⟨a1, a2, a3, a4, a5, a6, a7⟩ := x
 obtain ⟨b1, b2, b3, b4, b5, b6, b7⟩ := y
 simp [sameB]


set_option maxRecDepth 100000 in
set_option maxHeartbeats 4000000 in
theorem same02_any (x y : Bl) (pa ta ba pa2 ta2 ba2 : Option Addr) (pc tc bc pc2 tc2 bc2 : Nat) (w : World) (hx : BlAt x pa ta ba w) (hy : BlAt y pa2 ta2 ba2 w) :
  Calls Try.prog 20 #[.agg #[.int .i64 x.tab, .slice pa x.pan.length pc, .int .i64 x.hei, .slice ta x.top.length tc, .slice ba x.bot.length bc, .int .i64 x.slo, .bool x.opn], .agg #[.int .i64 y.tab, .slice pa2 y.pan.length pc2, .int .i64 y.hei, .slice ta2 y.top.length tc2, .slice ba2 y.bot.length bc2, .int .i64 y.slo, .bool y.opn]] w fun e w' => e = .returned (.bool (sameB x y)) ∧ Gr w w' := by
 have gg := (Gr.al w (.cells #[.int .i64 x.tab, .slice pa x.pan.length pc, .int .i64 x.hei, .slice ta x.top.length tc, .slice ba x.bot.length bc, .int .i64 x.slo, .bool x.opn] 24)).tr (Gr.al _ (.cells #[.int .i64 y.tab, .slice pa2 y.pan.length pc2, .int .i64 y.hei, .slice ta2 y.top.length tc2, .slice ba2 y.bot.length bc2, .int .i64 y.slo, .bool y.opn] 24))
 have bx := (Box.new w [.int .i64 x.tab, .slice pa x.pan.length pc, .int .i64 x.hei, .slice ta x.top.length tc, .slice ba x.bot.length bc, .int .i64 x.slo, .bool x.opn] 24 w.heap.size rfl).keep (Gr.al _ (.cells #[.int .i64 y.tab, .slice pa2 y.pan.length pc2, .int .i64 y.hei, .slice ta2 y.top.length tc2, .slice ba2 y.bot.length bc2, .int .i64 y.slo, .bool y.opn] 24))
 have bY := Box.new (w.alloc (.cells #[.int .i64 x.tab, .slice pa x.pan.length pc, .int .i64 x.hei, .slice ta x.top.length tc, .slice ba x.bot.length bc, .int .i64 x.slo, .bool x.opn] 24)) [.int .i64 y.tab, .slice pa2 y.pan.length pc2, .int .i64 y.hei, .slice ta2 y.top.length tc2, .slice ba2 y.bot.length bc2, .int .i64 y.slo, .bool y.opn] 24 (w.heap.size + 1) (by simp)
 obtain ⟨r, hr⟩ : ∃ r, sameB x y = r := ⟨_, rfl⟩
 rw [hr]
 have HR := Lib.hid hr
 clear hr
 obtain ⟨d1, e1⟩ : ∃ d, (x.tab == y.tab) = d := ⟨_, rfl⟩
 obtain ⟨d2, e2⟩ : ∃ d, decide (x.pan = y.pan) = d := ⟨_, rfl⟩
 obtain ⟨d3, e3⟩ : ∃ d, (x.hei == y.hei) = d := ⟨_, rfl⟩
 obtain ⟨d4, e4⟩ : ∃ d, decide (x.top = y.top) = d := ⟨_, rfl⟩
 obtain ⟨d5, e5⟩ : ∃ d, decide (x.bot = y.bot) = d := ⟨_, rfl⟩
 obtain ⟨d6, e6⟩ : ∃ d, (x.slo == y.slo) = d := ⟨_, rfl⟩
 obtain ⟨d7, e7⟩ : ∃ d, (x.opn == y.opn) = d := ⟨_, rfl⟩
 have HD : Hid (r = (d1 && (d2 && (d3 && (d4 && (d5 && (d6 && d7))))))) := Lib.hid (by rw [← HR.out]; unfold sameB; rw [e1, e2, e3, e4, e5, e6, e7])
 have c1 := fun (v : World) (h1 : IRow v pa x.pan) (h2 : IRow v pa2 y.pan) => ints02_any x.pan y.pan pa pa2 pc pc2 v h1 h2
 have c2 := fun (v : World) (h1 : IRow v ta x.top) (h2 : IRow v ta2 y.top) => ints02_any x.top y.top ta ta2 tc tc2 v h1 h2
 have c3 := fun (v : World) (h1 : IRow v ba x.bot) (h2 : IRow v ba2 y.bot) => ints02_any x.bot y.bot ba ba2 bc bc2 v h1 h2
 rw [e2] at c1
 rw [e4] at c2
 rw [e5] at c3
 have C1 := Lib.hid c1
 have C2 := Lib.hid c2
 have C3 := Lib.hid c3
 have HX := Lib.hid hx
 have HY := Lib.hid hy
 clear e2 e4 e5 c1 c2 c3 HR hx hy
 go_enter Try.func20, Try.ntmps20
 go_upto_region 1 with fail
 refine wp_abs (fun U => Gr w U ∧ Box U w.heap.size [.int .i64 x.tab, .slice pa x.pan.length pc, .int .i64 x.hei, .slice ta x.top.length tc, .slice ba x.bot.length bc, .int .i64 x.slo, .bool x.opn] ∧ Box U (w.heap.size + 1) [.int .i64 y.tab, .slice pa2 y.pan.length pc2, .int .i64 y.hei, .slice ta2 y.top.length tc2, .slice ba2 y.bot.length bc2, .int .i64 y.slo, .bool y.opn]) ⟨gg, bx, bY⟩ ?_
 clear gg bx bY
 rintro U ⟨gU, bx, bY⟩
 obtain ⟨p0, p1, p2, p3, p4, p5, p6⟩ := bx.c7
 obtain ⟨q0, q1, q2, q3, q4, q5, q6⟩ := bY.c7
 cases d1 with
 | false =>
  go_wp2
  go_ret
  exact ⟨ret_bool (by rw [HD.out]; simp), gU⟩
 | true =>
  cases d2 with
  | false =>
   go_wp2_with (go_at_call 22; refine (C1.out U (HX.out.p.grow gU) (HY.out.p.grow gU)).mono ?_; rintro e w1 ⟨rfl, g1⟩; (obtain ⟨p0, p1, p2, p3, p4, p5, p6⟩ := (bx.keep g1).c7); (obtain ⟨q0, q1, q2, q3, q4, q5, q6⟩ := (bY.keep g1).c7))
   go_ret
   exact ⟨ret_bool (by rw [HD.out]; simp), (gU.tr g1)⟩
  | true =>
   cases d3 with
   | false =>
    go_wp2_with (go_at_call 22; refine (C1.out U (HX.out.p.grow gU) (HY.out.p.grow gU)).mono ?_; rintro e w1 ⟨rfl, g1⟩; (obtain ⟨p0, p1, p2, p3, p4, p5, p6⟩ := (bx.keep g1).c7); (obtain ⟨q0, q1, q2, q3, q4, q5, q6⟩ := (bY.keep g1).c7))
    go_ret
    exact ⟨ret_bool (by rw [HD.out]; simp), (gU.tr g1)⟩
   | true =>
    cases d4 with
    | false =>
     have tok0 : True := trivial
     go_wp2_with (first
      | (have _t := tok0; clear tok0 _t; go_at_call 22; refine (C1.out U (HX.out.p.grow gU) (HY.out.p.grow gU)).mono ?_; rintro e w1 ⟨rfl, g1⟩; (obtain ⟨p0, p1, p2, p3, p4, p5, p6⟩ := (bx.keep g1).c7); (obtain ⟨q0, q1, q2, q3, q4, q5, q6⟩ := (bY.keep g1).c7))
      | (go_at_call 22; refine (C2.out w1 (HX.out.t.grow (gU.tr g1)) (HY.out.t.grow (gU.tr g1))).mono ?_; rintro e w2 ⟨rfl, g2⟩; (obtain ⟨p0, p1, p2, p3, p4, p5, p6⟩ := (bx.keep (g1.tr g2)).c7); (obtain ⟨q0, q1, q2, q3, q4, q5, q6⟩ := (bY.keep (g1.tr g2)).c7)))
     go_ret
     exact ⟨ret_bool (by rw [HD.out]; simp), ((gU.tr g1).tr g2)⟩
    | true =>
     cases d5 with
     | false =>
      have tok0 : True := trivial
      have tok1 : True := trivial
      go_wp2_with (first
       | (have _t := tok0; clear tok0 _t; go_at_call 22; refine (C1.out U (HX.out.p.grow gU) (HY.out.p.grow gU)).mono ?_; rintro e w1 ⟨rfl, g1⟩; (obtain ⟨p0, p1, p2, p3, p4, p5, p6⟩ := (bx.keep g1).c7); (obtain ⟨q0, q1, q2, q3, q4, q5, q6⟩ := (bY.keep g1).c7))
       | (have _t := tok1; clear tok1 _t; go_at_call 22; refine (C2.out w1 (HX.out.t.grow (gU.tr g1)) (HY.out.t.grow (gU.tr g1))).mono ?_; rintro e w2 ⟨rfl, g2⟩; (obtain ⟨p0, p1, p2, p3, p4, p5, p6⟩ := (bx.keep (g1.tr g2)).c7); (obtain ⟨q0, q1, q2, q3, q4, q5, q6⟩ := (bY.keep (g1.tr g2)).c7))
       | (go_at_call 22; refine (C3.out w2 (HX.out.b.grow ((gU.tr g1).tr g2)) (HY.out.b.grow ((gU.tr g1).tr g2))).mono ?_; rintro e w3 ⟨rfl, g3⟩; (obtain ⟨p0, p1, p2, p3, p4, p5, p6⟩ := (bx.keep ((g1.tr g2).tr g3)).c7); (obtain ⟨q0, q1, q2, q3, q4, q5, q6⟩ := (bY.keep ((g1.tr g2).tr g3)).c7)))
      go_ret
      exact ⟨ret_bool (by rw [HD.out]; simp), (((gU.tr g1).tr g2).tr g3)⟩
     | true =>
      cases d6 with
      | false =>
       have tok0 : True := trivial
       have tok1 : True := trivial
       go_wp2_with (first
        | (have _t := tok0; clear tok0 _t; go_at_call 22; refine (C1.out U (HX.out.p.grow gU) (HY.out.p.grow gU)).mono ?_; rintro e w1 ⟨rfl, g1⟩; (obtain ⟨p0, p1, p2, p3, p4, p5, p6⟩ := (bx.keep g1).c7); (obtain ⟨q0, q1, q2, q3, q4, q5, q6⟩ := (bY.keep g1).c7))
        | (have _t := tok1; clear tok1 _t; go_at_call 22; refine (C2.out w1 (HX.out.t.grow (gU.tr g1)) (HY.out.t.grow (gU.tr g1))).mono ?_; rintro e w2 ⟨rfl, g2⟩; (obtain ⟨p0, p1, p2, p3, p4, p5, p6⟩ := (bx.keep (g1.tr g2)).c7); (obtain ⟨q0, q1, q2, q3, q4, q5, q6⟩ := (bY.keep (g1.tr g2)).c7))
        | (go_at_call 22; refine (C3.out w2 (HX.out.b.grow ((gU.tr g1).tr g2)) (HY.out.b.grow ((gU.tr g1).tr g2))).mono ?_; rintro e w3 ⟨rfl, g3⟩; (obtain ⟨p0, p1, p2, p3, p4, p5, p6⟩ := (bx.keep ((g1.tr g2).tr g3)).c7); (obtain ⟨q0, q1, q2, q3, q4, q5, q6⟩ := (bY.keep ((g1.tr g2).tr g3)).c7)))
       go_ret
       exact ⟨ret_bool (by rw [HD.out]; simp), (((gU.tr g1).tr g2).tr g3)⟩
      | true =>
       cases d7 with
       | false =>
        have tok0 : True := trivial
        have tok1 : True := trivial
        go_wp2_with (first
         | (have _t := tok0; clear tok0 _t; go_at_call 22; refine (C1.out U (HX.out.p.grow gU) (HY.out.p.grow gU)).mono ?_; rintro e w1 ⟨rfl, g1⟩; (obtain ⟨p0, p1, p2, p3, p4, p5, p6⟩ := (bx.keep g1).c7); (obtain ⟨q0, q1, q2, q3, q4, q5, q6⟩ := (bY.keep g1).c7))
         | (have _t := tok1; clear tok1 _t; go_at_call 22; refine (C2.out w1 (HX.out.t.grow (gU.tr g1)) (HY.out.t.grow (gU.tr g1))).mono ?_; rintro e w2 ⟨rfl, g2⟩; (obtain ⟨p0, p1, p2, p3, p4, p5, p6⟩ := (bx.keep (g1.tr g2)).c7); (obtain ⟨q0, q1, q2, q3, q4, q5, q6⟩ := (bY.keep (g1.tr g2)).c7))
         | (go_at_call 22; refine (C3.out w2 (HX.out.b.grow ((gU.tr g1).tr g2)) (HY.out.b.grow ((gU.tr g1).tr g2))).mono ?_; rintro e w3 ⟨rfl, g3⟩; (obtain ⟨p0, p1, p2, p3, p4, p5, p6⟩ := (bx.keep ((g1.tr g2).tr g3)).c7); (obtain ⟨q0, q1, q2, q3, q4, q5, q6⟩ := (bY.keep ((g1.tr g2).tr g3)).c7)))
        go_ret
        exact ⟨ret_bool (by rw [HD.out]; simp), (((gU.tr g1).tr g2).tr g3)⟩
       | true =>
        have tok0 : True := trivial
        have tok1 : True := trivial
        go_wp2_with (first
         | (have _t := tok0; clear tok0 _t; go_at_call 22; refine (C1.out U (HX.out.p.grow gU) (HY.out.p.grow gU)).mono ?_; rintro e w1 ⟨rfl, g1⟩; (obtain ⟨p0, p1, p2, p3, p4, p5, p6⟩ := (bx.keep g1).c7); (obtain ⟨q0, q1, q2, q3, q4, q5, q6⟩ := (bY.keep g1).c7))
         | (have _t := tok1; clear tok1 _t; go_at_call 22; refine (C2.out w1 (HX.out.t.grow (gU.tr g1)) (HY.out.t.grow (gU.tr g1))).mono ?_; rintro e w2 ⟨rfl, g2⟩; (obtain ⟨p0, p1, p2, p3, p4, p5, p6⟩ := (bx.keep (g1.tr g2)).c7); (obtain ⟨q0, q1, q2, q3, q4, q5, q6⟩ := (bY.keep (g1.tr g2)).c7))
         | (go_at_call 22; refine (C3.out w2 (HX.out.b.grow ((gU.tr g1).tr g2)) (HY.out.b.grow ((gU.tr g1).tr g2))).mono ?_; rintro e w3 ⟨rfl, g3⟩; (obtain ⟨p0, p1, p2, p3, p4, p5, p6⟩ := (bx.keep ((g1.tr g2).tr g3)).c7); (obtain ⟨q0, q1, q2, q3, q4, q5, q6⟩ := (bY.keep ((g1.tr g2).tr g3)).c7)))
        go_ret
        exact ⟨ret_bool (by rw [HD.out]; simp), (((gU.tr g1).tr g2).tr g3)⟩

end Go.Proofs.Ytoihnilgmdcndaa

namespace Go.Proofs.Ytoihnilgmdcndaa
set_option linter.unusedVariables false
set_option linter.unusedSimpArgs false
open Go.RowKit Go.Shelf

attribute [local go_sem] Oper.semAt_some

theorem take_snoc' (l : List Int) {k : Nat} {x : Int} (hx : l[k]? = some x) : l.take (k + 1) = l.take k ++ [x] := by rw [List.take_add_one, hx]; rfl

set_option maxRecDepth 100000 in
set_option maxHeartbeats 2000000 in
/-- The closure of slices.Values, for every loop body that keeps what lay below n₀. -/
theorem values1_in (F : Fence) (n : Nat) (h7 : F.fn 134) (hro : F.round = none) (hn : 1 ≤ n) (l Bs n₀ b off cap : Nat) (zs : List Int) (hreach : zs.length ≤ 1000000) (hb : b < n₀) (J Jx : List Int → World → Prop)
    (hY : ∀ pre x W, J pre W → pre.length < zs.length → YieldAt F (n - 1) Try.prog l #[.int .i64 x] W fun e W' =>
      (e = .returned (.bool true) ∧ J (pre ++ [x]) W' ∧ Below n₀ W W') ∨ (e = .returned (.bool false) ∧ Jx (pre ++ [x]) W'))
    (W : World) (hBs : W.cell? ⟨Bs, 0, none⟩ = some (.slice (some ⟨b, off, none⟩) zs.length cap)) (hc : ∀ j x, zs[j]? = some x → W.cell? ⟨b, off + j, none⟩ = some (.int .i64 x)) (h0 : J [] W) :
    CallsIn F n Try.prog 134 #[.func (.yield l) #[] #[], .pointer (some ⟨Bs, 0, none⟩)] W fun e W' => (∃ v, e = .returned v) ∧
      ((∃ ys, ys = zs ∧ J ys W') ∨ (∃ pre, pre <+: zs ∧ Jx pre W')) := by
  refine callsIn_of_wp Try.func134 rfl h7 ?_ hro
  simp only [Try.ntmps134, List.size_toArray, List.length_cons, List.length_nil, Nat.reduceAdd, Nat.reduceSub, Array.replicate_succ, Array.replicate_zero, List.push_toArray, List.append_toArray, List.nil_append, List.cons_append]
  gi_wp2
  gi_loopw [7] (fun i wr => ∃ k : Nat, k ≤ zs.length ∧ i = .int .i64 k ∧ J (zs.take k) wr ∧ Below n₀ W wr)
    (fun i _ => zs.length - (intOf i).toNat)
  case atStart => exact ⟨0, Nat.zero_le _, rfl, h0, Below.refl _ _⟩
  case round =>
    obtain ⟨k, hk, rfl, hJs, hnx⟩ := hrel
    by_cases hlt : k < zs.length
    · obtain ⟨x, hx⟩ := get_of_lt hlt
      obtain ⟨fn, tmps, assign, body, hy, hR⟩ := hY _ x wr hJs (by simp; omega)
      have hcx' : wr.cell? ⟨b, off + k, none⟩ = some (.int .i64 x) := (hnx.cell (p := ⟨b, off + k, none⟩) hb).trans (hc k x hx)
      have hsn := Lib.hid (take_snoc' zs hx)
      clear hx
      gi_wp2
      refine hR.mono ?_
      rintro e W3 (⟨rfl, hJ3, hk3⟩ | ⟨rfl, hJx3⟩)
      · gi_wp2
        go_roundw
        case rel => exact ⟨k + 1, by omega, by simp, by rw [hsn.out]; exact hJ3, hnx.trans hk3⟩
        case measure => simp [intOf]; omega
      · gi_wp2
        refine bodyPost_ret (results_none rfl _ _ _) rfl ?_
        exact ⟨⟨_, rfl⟩, .inr ⟨_, by rw [← hsn.out]; exact List.take_prefix _ _, hJx3⟩⟩
    · obtain rfl : k = zs.length := by omega
      rw [List.take_length] at hJs
      gi_wp2
      go_end0
      exact ⟨⟨_, rfl⟩, .inl ⟨_, rfl, hJs⟩⟩

/-- slices.Values of a row that lies below n₀ hands back a value that keeps to the law of a range over a function. -/
theorem values_stops (F : Fence) (n : Nat) (h7 : F.fn 134) (hro : F.round = none) (hn : 1 ≤ n) (Bs n₀ b off cap : Nat) (zs : List Int) (hreach : zs.length ≤ 1000000) (w : World) (hBs : Bs < w.heap.size) (hn₀ : n₀ ≤ w.heap.size) (hb : b < n₀)
    (hc : w.cell? ⟨Bs, 0, none⟩ = some (.slice (some ⟨b, off, none⟩) zs.length cap)) (hI : ∀ j x, zs[j]? = some x → w.cell? ⟨b, off + j, none⟩ = some (.int .i64 x)) :
    SeqStopsK F n Try.prog 134 #[.pointer (some ⟨Bs, 0, none⟩)] (fun x : Int => #[Value.int .i64 x]) (Below n₀) (fun ys => ys = zs) (fun pre => pre <+: zs) zs.length w := fun l J Jx W hW _ _ hY h0 => by
  have hc' := (hW.cell (p := ⟨Bs, 0, none⟩) hBs).trans hc
  refine (values1_in F n h7 hro hn l Bs n₀ b off cap zs hreach hb J Jx hY W hc' (fun j x hx => (hW.cell (p := ⟨b, off + j, none⟩) (Nat.lt_of_lt_of_le hb hn₀)).trans (hI j x hx)) h0).mono ?_
  rintro e W' ⟨he, ⟨ys, rfl, hj⟩ | ⟨pre, hp, hj⟩⟩
  · exact ⟨he, .inl ⟨_, rfl, hj⟩⟩
  · exact ⟨he, .inr ⟨_, hp, hj⟩⟩

set_option maxRecDepth 100000 in
set_option maxHeartbeats 2000000 in
theorem appendSeq_in (F : Fence) (n : Nat) (h3 : F.fn 157) (h5 : F.fn 134) (hro : F.round = none) (hn : 3 ≤ n) (Bs b off cap : Nat) (zs : List Int) (hlen : zs.length ≤ 1000000) (w : World) (hb : b < w.heap.size)
    (hBs : w.cell? ⟨Bs, 0, none⟩ = some (.slice (some ⟨b, off, none⟩) zs.length cap)) (hI : ∀ j x, zs[j]? = some x → w.cell? ⟨b, off + j, none⟩ = some (.int .i64 x)) :
    CallsIn F n Try.prog 157 #[.slice none 0 0, .func (.func 134) #[] #[.pointer (some ⟨Bs, 0, none⟩)]] w fun e W' => ∃ v, e = .returned v ∧ W'.ownsRow w.heap.size 3 1 v zs.length (zs.map (Value.int .i64)) ∧ (v = .slice none 0 0 ↔ zs = []) ∧ Below w.heap.size w W' := by
  have h1 : 1 ≤ n := by omega
  have hBl : Bs < w.heap.size := World.block_lt_of_cell? w _ hBs
  obtain ⟨i0, hi, hz0, hz1, hz2⟩ := info_parts infoInt
  refine callsIn_of_wp_marks Try.func157 rfl h3 ?_ hro
  simp only [Try.ntmps157, List.size_toArray, List.length_cons, List.length_nil, Nat.reduceAdd, Nat.reduceSub, Array.replicate_succ, Array.replicate_zero, List.push_toArray, List.append_toArray, List.nil_append, List.cons_append]
  gi_wp2
  have bO := Boxed.new w 22 (.slice none 0 0)
  have hB0 : Below w.heap.size w (w.alloc (.cells #[.slice none 0 0] 22)) := (Below.refl _ w).alloc (Nat.le_refl _) _
  refine wpIn_rangeFunc_ownG hro h1 (gf := 134) (lb := #[.pointer (some ⟨Bs, 0, none⟩)]) rfl h5 (enters_of Try.func134 (by kernel_rfl) rfl)
    (values_stops F (n - 1) h5 hro (by omega) Bs w.heap.size b off cap zs hlen _ (by simp; omega) (by simp) hb ((hB0.cell (p := ⟨Bs, 0, none⟩) hBl).trans hBs) (fun j x hx => (hB0.cell (p := ⟨b, off + j, none⟩) hb).trans (hI j x hx))) belowK_t (belowK_b (by simp)) (Below.refl _ _) (fun _ => rfl)
    (fun pre W => (∃ v, Boxed W w.heap.size 22 v ∧ W.ownsRow w.heap.size 3 1 v pre.length (pre.map (Value.int .i64)) ∧ (v = .slice none 0 0 ↔ pre = [])) ∧ Below w.heap.size w W)
    (fun _ _ _ => False)
    (OwnFrom.and (Own.from (holdsRow_own w.heap.size w.heap.size 22 3 1 (fun pre => pre.length) (fun pre => pre.map (Value.int .i64)) (fun pre v => v = .slice none 0 0 ↔ pre = [])) _) (ownFrom_below (Nat.le_refl _) (by simp)))
    (fun _ _ _ _ _ hs _ _ => hs)
    ⟨⟨_, bO, World.ownsRow_nil _ _ _ _, by simp⟩, hB0⟩
    (fun x => { tmps := #[.slice none 0 0, .func (.func 134) #[] #[.pointer (some ⟨Bs, 0, none⟩)], .pointer (some ⟨w.heap.size, 0, none⟩), undef, .slice none 0 0, .int .i64 x, .func (.func 134) #[] #[.pointer (some ⟨Bs, 0, none⟩)], .int .i64 x, undef, undef, undef, undef, undef], defers := [] }) ?assign ?body ?done ?stop
  case assign =>
    intro l x W K hK
    gi_wp2
    exact hK
  case body =>
    rintro l pre x W ⟨⟨v, hv, hrow, hnil⟩, hB⟩ hlt
    have hc := hv.cell
    have hp1 : pre.length + 1 ≤ maxLen := by unfold maxLen; omega
    gi_wp2_with (gi_at_builtin; refine wpListIn_append_own _ rfl _ _ 22 rfl w.heap.size 3 i0 (.int .i64 0) 1 8 Try.underlying22 hi hz0 hz1 hz2 rfl (by decide) _ _ _ rfl (hrow.alloc _) ⟨W.heap.size, 0, none⟩ 1 1 [.int .i64 x] rfl rfl (cell_one_new _ _ _) (by simp [Value.oneCell']) hp1 (by omega) (by have := hB.size; simp; omega) ?_; intro v' w1 hown' hgrow _; obtain ⟨g', cap', rfl⟩ := ownsRow_succ hown'; obtain ⟨hv1, hv2, hr2, hk2, hb2⟩ := hv.appended (by decide) hrow hB.size (Nat.le_refl _) hown' hgrow; have hc1 := hv1.cell; have hf1 := hv1.frozen)
    exact ⟨hk2.from _, hb2, ⟨_, hv2, by simpa using hr2, by simp⟩, hB.trans hb2⟩
  case done =>
    rintro D ys W hD rfl ⟨⟨v, hv, hrow, hnil⟩, hB⟩ hK
    have hc := hv.cell
    gi_wp2
    refine ⟨by simp, .inl ⟨_, _, rfl, run_takeDeferred hK, ?_⟩⟩
    exact ⟨_, results_tmp rfl _ _ _, v, rfl, ownsRow_putObj hrow _ hK rfl, hnil, hB.trans (belowK_b (w := w) (Nat.le_refl _) W D _ _ (by simp at hD; omega) hK rfl rfl)⟩
  case stop =>
    rintro D c pre W _ _ h _
    exact h.elim

end Go.Proofs.Ytoihnilgmdcndaa

namespace Go.Proofs.Ytoihnilgmdcndaa
set_option linter.unusedVariables false
set_option linter.unusedSimpArgs false
open Go.RowKit

/-- A row of numbers in its order. -/
def sortL (l : List Int) : List Int := l.mergeSort fun x y => decide (x ≤ y)

theorem sortL_len (l : List Int) : (sortL l).length = l.length := by simp [sortL]

set_option maxRecDepth 100000 in
theorem values_any (a : Option Addr) (n cap : Nat) (w : World) :
    Calls Try.prog 110 #[.slice a n cap] w fun e w' => e = .returned (.func (.func 134) #[] #[.pointer (some ⟨w.heap.size, 0, none⟩)]) ∧ w' = w.alloc (.cells #[.slice a n cap] 22) := by
  go_enter Try.func110, Try.ntmps110
  go_wp2
  go_ret
  exact ⟨rfl, rfl⟩

set_option maxRecDepth 100000 in
theorem collect_any (Bs b off cap : Nat) (zs : List Int) (hlen : zs.length ≤ 1000000) (w : World) (hb : b < w.heap.size)
    (hBs : w.cell? ⟨Bs, 0, none⟩ = some (.slice (some ⟨b, off, none⟩) zs.length cap)) (hI : IRow w (some ⟨b, off, none⟩) zs) :
    Calls Try.prog 133 #[.func (.func 134) #[] #[.pointer (some ⟨Bs, 0, none⟩)]] w fun e w' => ∃ v, e = .returned v ∧ w'.ownsRow w.heap.size 3 1 v zs.length (zs.map (Value.int .i64)) ∧ Gr w w' := by
  have hI' : ∀ j x, zs[j]? = some x → w.cell? ⟨b, off + j, none⟩ = some (.int .i64 x) := fun j x hx => by
    obtain ⟨b', o', e, _, hc⟩ := hI.get hx
    cases e
    exact hc
  have hA := callsIn_wide.1 (appendSeq_in Fence.wide 10 trivial trivial rfl (by decide) Bs b off cap zs hlen w hb hBs hI')
  go_enter Try.func133, Try.ntmps133
  go_wp2_with (go_at_call 157; refine hA.mono ?_; rintro e w2 ⟨v, rfl, hr, _, hg⟩)
  go_ret
  exact ⟨_, rfl, hr, hg⟩

/-- What the sort leaves, told in rows. -/
def SortPost (base b : Nat) (zs : List Int) (w : World) (e : Ending) (w' : World) : Prop :=
  e = .returned (.tuple #[]) ∧ Below base w w' ∧ IRow w' (some ⟨b, 0, none⟩) (sortL zs)

theorem sort_any (base b cap : Nat) (zs : List Int) (hz : zs.length ≤ 1000000) (w : World) (hH : Sort.Holds (Value.int .i64) w b 0 zs.toArray) (hb : b < w.heap.size) (hbase : base ≤ b) :
    Calls Try.prog 108 #[.slice (some ⟨b, 0, none⟩) zs.length cap] w (SortPost base b zs w) := by
  refine (Try.slices_Sort_int b 0 cap zs w hH hb (by omega)).mono ?_
  rintro e w' ⟨rfl, n, os, rfl⟩
  refine ⟨rfl, ?_, ?_⟩
  · exact (Below.refl base w).grown (grownBy_sortedI _) (by omega) (fun k hk => by cases hk; exact hbase)
  · refine ⟨by rw [sortL_len]; omega, fun j x hx => ⟨b, 0, rfl, ?_, ?_⟩⟩
    · simp [Sort.putRow, Sort.mapBlock, Sort.ahead]; omega
    · intro i v hv
      have hj : j < (sortL zs).length := (List.getElem?_eq_some_iff.1 hx).1
      obtain rfl : i = 0 := by
        have := (List.getElem?_eq_some_iff.1 hv).1
        simp [encI] at this
        exact this
      have hv' : v = Value.int .i64 x := by simpa [encI] using hv.symm
      rw [Sort.cell?_grow _ _ _ (by simp [Sort.putRow, Sort.mapBlock, Sort.ahead]; omega)]
      have h := Sort.cell?_putRow (Value.int .i64) (Sort.ahead w n) b 0 zs.toArray (sortL zs).toArray (fun k hk => hH k hk) (by simp [sortL]) j (by simpa using hj)
      have hx' : (sortL zs).toArray[j]! = x := by
        rw [getElem!_pos _ j (by simpa using hj)]
        have := (List.getElem?_eq_some_iff.1 hx).2
        simpa using this
      rw [hx'] at h
      rw [hv']
      simpa [sortL] using h

theorem holds_own {w : World} {base g cap : Nat} {zs : List Int} {e : TypeId} (h : w.ownsRow base e 1 (.slice (some ⟨g, 0, none⟩) zs.length cap) zs.length (zs.map (Value.int .i64))) (h0 : 0 < zs.length) :
    Sort.Holds (Value.int .i64) w g 0 zs.toArray ∧ g < w.heap.size ∧ base ≤ g := by
  obtain ⟨h1, ⟨_, hn⟩ | ⟨b, c, cur, hv, hb, hh, _, _, hs, hx⟩⟩ := h
  · omega
  · cases hv
    refine ⟨holds_of_blockI hh (by simpa using hx), (Array.getElem?_eq_some_iff.1 hh).1, hb⟩

set_option maxRecDepth 100000 in
theorem sorted_any (Bs b off cap : Nat) (zs : List Int) (h0 : 0 < zs.length) (hlen : zs.length ≤ 1000000) (w : World) (hb : b < w.heap.size)
    (hBs : w.cell? ⟨Bs, 0, none⟩ = some (.slice (some ⟨b, off, none⟩) zs.length cap)) (hI : IRow w (some ⟨b, off, none⟩) zs) :
    Calls Try.prog 109 #[.func (.func 134) #[] #[.pointer (some ⟨Bs, 0, none⟩)]] w fun e w' => ∃ g cap', e = .returned (.slice (some ⟨g, 0, none⟩) zs.length cap') ∧ IRow w' (some ⟨g, 0, none⟩) (sortL zs) ∧ Gr w w' := by
  have hC := collect_any Bs b off cap zs hlen w hb hBs hI
  have H0 := Lib.hid h0
  go_enter Try.func109, Try.ntmps109
  go_wp2_with (first
    | (go_at_call 133; refine hC.mono ?_; rintro e w2 ⟨v, rfl, hr, hg⟩; obtain ⟨m, hm⟩ : ∃ m, zs.length = m + 1 := ⟨zs.length - 1, by have := H0.out; omega⟩; have hr' := hr; rw [hm] at hr'; obtain ⟨g, c, rfl⟩ := ownsRow_succ hr'; clear hr'; rw [← hm] at hr; rw [← hm]; clear hm m; obtain ⟨hH, hgl, hgb⟩ := holds_own hr H0.out)
    | (go_at_call 108; refine (sort_any w.heap.size g c zs hlen w2 hH hgl hgb).mono ?_; rintro e w3 ⟨rfl, hb3, hr3⟩))
  go_ret
  exact ⟨_, _, rfl, hr3, hg.trans hb3⟩

end Go.Proofs.Ytoihnilgmdcndaa

namespace Go.Proofs.Ytoihnilgmdcndaa
set_option linter.unusedVariables false
set_option linter.unusedSimpArgs false
open Go.RowKit

theorem fieldSpan_0 (a b : Value) (w : World) : (Instr.field 37 (.agg #[a, b]) 0).run Try.prog w = .ok a w := by kernel_rfl

set_option maxRecDepth 100000 in
set_option maxHeartbeats 2000000 in
theorem fitsAt_any (tab hei slo off : Int) (pan top bot : List Int) (pa ta ba : Option Addr) (pc tc bc : Nat) (opn : Bool) (c : Int) (G : GoodB tab hei slo pan top bot opn) (h2 : 0 ≤ off) (h3 : off ≤ 3000) (c0 : 0 ≤ c) (c1 : c ≤ 10000) (k : Nat) (hk : k < 9) (b0 b1 : Nat) (w : World)
    (hx : Box w b0 [.int .i64 tab, .slice pa pan.length pc, .int .i64 hei, .slice ta top.length tc, .slice ba bot.length bc, .int .i64 slo, .bool opn, .int .i64 off, .slice ta top.length tc, .slice ba bot.length bc]) (hy : Box w b1 [.int .i64 c]) (hp : IRow w pa pan) (ht : IRow w ta top) (hb : IRow w ba bot) :
    Calls Try.prog 107 #[.int .i64 k, .pointer (some ⟨b0, 0, none⟩), .pointer (some ⟨b1, 0, none⟩)] w fun e w' => e = .returned (.int .i64 (innerAt off hei pan top bot opn c c k).lo) ∧ Gr w w' := by
  have hI := inside_all tab hei slo off pan top bot pa ta ba pc tc bc opn c c G h2 h3 c0 c1 c0 c1 k hk w hp ht hb
  obtain ⟨e0, e1, e2, e3, e4, e5, e6, e7, e8, e9⟩ := hx.c10
  have q0 := hy.c1
  have hfi := fieldSpan_0
  go_enter Try.func107, Try.ntmps107
  go_wp2_with (go_at_call 69; refine hI.mono ?_; rintro e w2 ⟨rfl, hg⟩)
  go_ret
  exact ⟨rfl, hg⟩

theorem fitsAt_lit (tab hei slo off : Int) (pan top bot : List Int) (pa ta ba : Option Addr) (pc tc bc : Nat) (opn : Bool) (c : Int) (G : GoodB tab hei slo pan top bot opn) (h2 : 0 ≤ off) (h3 : off ≤ 3000) (c0 : 0 ≤ c) (c1 : c ≤ 10000) (k : Nat) (j : Int) (hj : j = (k : Int)) (hk : k < 9) (b0 b1 : Nat) (w : World)
    (hx : Box w b0 [.int .i64 tab, .slice pa pan.length pc, .int .i64 hei, .slice ta top.length tc, .slice ba bot.length bc, .int .i64 slo, .bool opn, .int .i64 off, .slice ta top.length tc, .slice ba bot.length bc]) (hy : Box w b1 [.int .i64 c]) (hp : IRow w pa pan) (ht : IRow w ta top) (hb : IRow w ba bot) :
    Calls Try.prog 107 #[.int .i64 j, .pointer (some ⟨b0, 0, none⟩), .pointer (some ⟨b1, 0, none⟩)] w fun e w' => e = .returned (.int .i64 (innerAt off hei pan top bot opn c c k).lo) ∧ Gr w w' := by
  subst hj
  exact fitsAt_any tab hei slo off pan top bot pa ta ba pc tc bc opn c G h2 h3 c0 c1 k hk b0 b1 w hx hy hp ht hb

/-- The measures of a box into which a thing must fit, and whether it does. -/
def fitsBox (off hei : Int) (pan top bot : List Int) (opn : Bool) (c : Int) : List Int :=
  [min (innerAt off hei pan top bot opn c c 0).lo (innerAt off hei pan top bot opn c c 2).lo, min (innerAt off hei pan top bot opn c c 1).lo (innerAt off hei pan top bot opn c c 3).lo, (innerAt off hei pan top bot opn c c 4).lo]

def fitsP (p : Int × Int) : Bool := decide (1000 * p.1 ≤ p.2)

def fitsL (thing box : List Int) : Bool := ((sortL thing).zip (sortL box)).all fitsP

theorem holds_new3 (w : World) (t : TypeId) (a b c : Int) (n : Nat) (hn : n = w.heap.size) : Sort.Holds (Value.int .i64) (w.alloc (.cells #[.int .i64 a, .int .i64 b, .int .i64 c] t)) n 0 ([a, b, c] : List Int).toArray := by
  subst hn
  exact holds_of_blockI (World.alloc_heap_new w _) (by simp)

theorem sortL_mem {l : List Int} {x : Int} (h : x ∈ sortL l) : x ∈ l := (List.mergeSort_perm l _).mem_iff.1 h

theorem IRow.at0 {w : World} {g : Nat} {l : List Int} (h : IRow w (some ⟨g, 0, none⟩) l) {j : Nat} {x : Int} (hx : l[j]? = some x) : w.cell? ⟨g, j, none⟩ = some (.int .i64 x) := by
  obtain ⟨b, off, e, _, hc⟩ := h.get hx
  cases e
  simpa using hc

theorem sorted_three (Bs b off cap : Nat) (zs : List Int) (hl : zs.length = 3) (w : World) (hb : b < w.heap.size)
    (hBs : w.cell? ⟨Bs, 0, none⟩ = some (.slice (some ⟨b, off, none⟩) 3 cap)) (hI : IRow w (some ⟨b, off, none⟩) zs) :
    Calls Try.prog 109 #[.func (.func 134) #[] #[.pointer (some ⟨Bs, 0, none⟩)]] w fun e w' => ∃ g cap', e = .returned (.slice (some ⟨g, 0, none⟩) 3 cap') ∧ IRow w' (some ⟨g, 0, none⟩) (sortL zs) ∧ Gr w w' := by
  have h := sorted_any Bs b off cap zs (by omega) (by omega) w hb (by rw [hl]; exact hBs) hI
  rw [hl] at h
  exact h

set_option maxRecDepth 100000 in
set_option maxHeartbeats 4000000 in
theorem fits_any (tab hei slo off : Int) (pan top bot : List Int) (pa ta ba : Option Addr) (pc tc bc : Nat) (opn : Bool) (c : Int) (thing : List Int) (G : GoodB tab hei slo pan top bot opn) (h2 : 0 ≤ off) (h3 : off ≤ 3000) (c0 : 0 ≤ c) (c1 : c ≤ 10000) (hl : thing.length = 3) (hth : ∀ x ∈ thing, 0 ≤ x ∧ x ≤ 3000) (td : Option Addr) (tcap : Nat) (w : World)
    (hp : IRow w pa pan) (ht : IRow w ta top) (hb : IRow w ba bot) (htd : IRow w td thing) :
    Calls Try.prog 80 #[.agg #[.int .i64 tab, .slice pa pan.length pc, .int .i64 hei, .slice ta top.length tc, .slice ba bot.length bc, .int .i64 slo, .bool opn, .int .i64 off, .slice ta top.length tc, .slice ba bot.length bc], .slice td thing.length tcap, .int .i64 c] w fun e w' => e = .returned (.bool (fitsL thing (fitsBox off hei pan top bot opn c))) ∧ Gr w w' := by
  obtain ⟨tb, toff, rfl, htb⟩ := htd.addr (by omega)
  have gX := (Gr.al w (.cells #[.int .i64 tab, .slice pa pan.length pc, .int .i64 hei, .slice ta top.length tc, .slice ba bot.length bc, .int .i64 slo, .bool opn, .int .i64 off, .slice ta top.length tc, .slice ba bot.length bc] 124)).tr (Gr.al _ (.cells #[.int .i64 c] 3))
  have hx := (Box.new w [.int .i64 tab, .slice pa pan.length pc, .int .i64 hei, .slice ta top.length tc, .slice ba bot.length bc, .int .i64 slo, .bool opn, .int .i64 off, .slice ta top.length tc, .slice ba bot.length bc] 124 w.heap.size rfl).keep (Gr.al _ (.cells #[.int .i64 c] 3))
  have hy := Box.new (w.alloc (.cells #[.int .i64 tab, .slice pa pan.length pc, .int .i64 hei, .slice ta top.length tc, .slice ba bot.length bc, .int .i64 slo, .bool opn, .int .i64 off, .slice ta top.length tc, .slice ba bot.length bc] 124)) [.int .i64 c] 3 (w.heap.size + 1) (by simp)
  have HL := Lib.hid hl
  have HT := Lib.hid hth
  have HG := Lib.hid G
  clear hth G
  go_enter Try.func80, Try.ntmps80
  go_wp2_with (first
    | (go_at_call 107; (refine (fitsAt_lit _ _ _ _ _ _ _ _ _ _ _ _ _ _ c HG.out h2 h3 c0 c1 0 _ (by rfl) (by omega) _ _ _ hx hy (hp.grow gX) (ht.grow gX) (hb.grow gX)).mono ?_); rintro e w1 ⟨rfl, hg⟩; replace hx := hx.keep hg; replace hy := hy.keep hg; replace gX := gX.tr hg)
    | (go_at_call 107; (refine (fitsAt_lit _ _ _ _ _ _ _ _ _ _ _ _ _ _ c HG.out h2 h3 c0 c1 1 _ (by rfl) (by omega) _ _ _ hx hy (hp.grow gX) (ht.grow gX) (hb.grow gX)).mono ?_); rintro e w1 ⟨rfl, hg⟩; replace hx := hx.keep hg; replace hy := hy.keep hg; replace gX := gX.tr hg)
    | (go_at_call 107; (refine (fitsAt_lit _ _ _ _ _ _ _ _ _ _ _ _ _ _ c HG.out h2 h3 c0 c1 2 _ (by rfl) (by omega) _ _ _ hx hy (hp.grow gX) (ht.grow gX) (hb.grow gX)).mono ?_); rintro e w1 ⟨rfl, hg⟩; replace hx := hx.keep hg; replace hy := hy.keep hg; replace gX := gX.tr hg)
    | (go_at_call 107; (refine (fitsAt_lit _ _ _ _ _ _ _ _ _ _ _ _ _ _ c HG.out h2 h3 c0 c1 3 _ (by rfl) (by omega) _ _ _ hx hy (hp.grow gX) (ht.grow gX) (hb.grow gX)).mono ?_); rintro e w1 ⟨rfl, hg⟩; replace hx := hx.keep hg; replace hy := hy.keep hg; replace gX := gX.tr hg)
    | (go_at_call 107; (refine (fitsAt_lit _ _ _ _ _ _ _ _ _ _ _ _ _ _ c HG.out h2 h3 c0 c1 4 _ (by rfl) (by omega) _ _ _ hx hy (hp.grow gX) (ht.grow gX) (hb.grow gX)).mono ?_); rintro e w5 ⟨rfl, hg⟩; clear hx hy; replace gX := gX.tr hg)
    | (go_at_call 108; (refine (sort_any w5.heap.size w5.heap.size 3 [_, _, _] (by simp) _ (holds_new3 _ _ _ _ _ _ rfl) (by simp) (Nat.le_refl _)).mono ?_); rintro e w6 ⟨rfl, hb6, hr6⟩; replace gX := gX.tr ((Gr.al w5 _).trans hb6))
    | (go_at_call 110; (refine (values_any _ _ _ _).mono ?_); rintro e w7 ⟨rfl, rfl⟩)
    | (go_at_call 109; (refine (sorted_three w6.heap.size tb toff tcap thing HL.out _ (Nat.lt_of_lt_of_le htb (gX.tr (Gr.al w6 _)).size) (cell_news w6 [_] _ 0 _ rfl) (htd.grow (gX.tr (Gr.al w6 _)))).mono ?_); rintro e w8 ⟨g, cap8, rfl, hr8, hg8⟩; replace hr6 := hr6.grow ((Gr.al w6 _).tr hg8); replace gX := gX.tr ((Gr.al w6 _).tr hg8)))
  have hbl : (fitsBox off hei pan top bot opn c).length = 3 := rfl
  change IRow w8 _ (sortL (fitsBox off hei pan top bot opn c)) at hr6
  have hzl : ((sortL thing).zip (sortL (fitsBox off hei pan top bot opn c))).length = 3 := by rw [List.length_zip, sortL_len, sortL_len, hl, hbl]; rfl
  have HE := Lib.hid (show ((sortL thing).zip (sortL (fitsBox off hei pan top bot opn c))).all fitsP = fitsL thing (fitsBox off hei pan top bot opn c) from rfl)
  have hsl : (sortL thing).length = 3 := by rw [sortL_len, hl]
  have hsb : (sortL (fitsBox off hei pan top bot opn c)).length = 3 := by rw [sortL_len, hbl]
  have HM : Hid (∀ x ∈ sortL thing, 0 ≤ x ∧ x ≤ 3000) := Lib.hid (fun x hx => HT.out x (sortL_mem hx))
  generalize hbx : fitsBox off hei pan top bot opn c = bx at *
  generalize hA : (sortL thing) = sa at *
  generalize hB : (sortL bx) = sb at *
  go_loopw [31] (fun i wr => ∃ k : Nat, k ≤ 3 ∧ i = .int .i64 k ∧ Gr w wr ∧ ((sa.zip sb).take k).all fitsP = true ∧ IRow wr (some ⟨g, 0, none⟩) sa ∧ IRow wr (some ⟨w5.heap.size, 0, none⟩) sb) (fun i wr => 3 - (intOf i).toNat)
  case atStart => exact ⟨0, by omega, rfl, gX, rfl, hr8, hr6⟩
  case round =>
    obtain ⟨k, hk, rfl, gW, hd, r8, r6⟩ := hrel
    clear hr8 hr6 gX
    by_cases hlt : k < 3
    · obtain ⟨x, hx⟩ := get_of_lt (show k < sa.length by omega)
      obtain ⟨y, hy⟩ := get_of_lt (show k < sb.length by omega)
      have hz : (sa.zip sb)[k]? = some (x, y) := List.getElem?_zip_eq_some.2 ⟨hx, hy⟩
      obtain ⟨x0, x1⟩ := HM.out x (List.mem_of_getElem? hx)
      have ca := r8.at0 hx
      have cb := r6.at0 hy
      have hw : IntKind.i64.wrap (1000 * x) = 1000 * x := IntWalk.i64_in _ (by omega)
      cases hc : fitsP (x, y) with
      | true =>
        have hge : ¬ y < 1000 * x := by
          have : 1000 * x ≤ y := by simpa [fitsP] using hc
          omega
        have hn := all_take_succ fitsP hz hd hc
        have Hn := Lib.hid hn
        clear hn hd hz hx hy
        go_wp2
        go_roundw
        case rel => exact ⟨k + 1, by omega, by go_num, gW, Hn.out, r8, r6⟩
        case measure => simp [intOf]; omega
      | false =>
        have hge : y < 1000 * x := by
          have : ¬ 1000 * x ≤ y := by simpa [fitsP] using hc
          omega
        have hn := Lib.hid (not_all_of fitsP hz hc)
        clear hd hz hx hy
        go_wp2
        go_ret
        exact ⟨ret_bool (by rw [hbx, ← HE.out, hn.out]), gW⟩
    · obtain rfl : k = 3 := by omega
      have Hd := Lib.hid hd
      clear hd
      have ht3 : ((sa.zip sb).take 3) = sa.zip sb := List.take_of_length_le (by omega)
      go_wp2
      go_ret
      exact ⟨ret_bool (by rw [hbx, ← HE.out, ← ht3, Hd.out]), gW⟩

end Go.Proofs.Ytoihnilgmdcndaa

namespace Go.Proofs.Ytoihnilgmdcndaa
set_option linter.unusedVariables false
set_option linter.unusedSimpArgs false
open Go.RowKit

theorem within_three (l : List Int) (hl : l.length = 3) (hd : inB 0 3000 l = true) (a : Option Addr) (cap : Nat) (w : World) (hr : IRow w a l) :
    Calls Try.prog 63 #[.int .i64 0, .int .i64 3000, .slice a 3 cap] w fun e w' => e = .returned (.bool true) ∧ Gr w w' := by
  have h := within_any 0 3000 l true hd a cap w hr
  rw [hl] at h
  exact h

theorem fits_three (tab hei slo : Int) (pan top bot : List Int) (pa ta ba : Option Addr) (pc tc bc : Nat) (opn : Bool) (c : Int) (thing : List Int) (G : GoodB tab hei slo pan top bot opn) (c0 : 0 ≤ c) (c1 : c ≤ 10000) (hl : thing.length = 3) (hth : ∀ x ∈ thing, 0 ≤ x ∧ x ≤ 3000) (td : Option Addr) (tcap : Nat) (w : World)
    (hp : IRow w pa pan) (ht : IRow w ta top) (hb : IRow w ba bot) (htd : IRow w td thing) :
    Calls Try.prog 80 #[.agg #[.int .i64 tab, .slice pa pan.length pc, .int .i64 hei, .slice ta top.length tc, .slice ba bot.length bc, .int .i64 slo, .bool opn, .int .i64 0, .slice ta top.length tc, .slice ba bot.length bc], .slice td 3 tcap, .int .i64 c] w fun e w' => e = .returned (.bool (fitsL thing (fitsBox 0 hei pan top bot opn c))) ∧ Gr w w' := by
  have h := fits_any tab hei slo 0 pan top bot pa ta ba pc tc bc opn c thing G (by omega) (by omega) c0 c1 hl hth td tcap w hp ht hb htd
  rw [hl] at h
  exact h

set_option maxRecDepth 100000 in
set_option maxHeartbeats 4000000 in
theorem holds_ok (tab hei slo : Int) (pan top bot : List Int) (pa ta ba : Option Addr) (pc tc bc : Nat) (opn : Bool) (cl ch : Int) (thing : List Int) (G : GoodB tab hei slo pan top bot opn) (hc : okSpan 1 10000 cl ch = true) (hl : thing.length = 3) (hth : inB 0 3000 thing = true) (td : Option Addr) (tcap : Nat) (w : World) (hp : IRow w pa pan) (ht : IRow w ta top) (hb : IRow w ba bot) (htd : IRow w td thing) :
    Calls Try.prog 35 #[.agg #[.int .i64 tab, .slice pa pan.length pc, .int .i64 hei, .slice ta top.length tc, .slice ba bot.length bc, .int .i64 slo, .bool opn], .agg #[.int .i64 cl, .int .i64 ch], .slice td thing.length tcap] w fun e w' => e = .returned (.tuple #[.bool (fitsL thing (fitsBox 0 hei pan top bot opn ch)), .bool (fitsL thing (fitsBox 0 hei pan top bot opn cl)), .int .i64 0]) ∧ Gr w w' := by
  have gg := (Gr.al w (.cells #[.int .i64 tab, .slice pa pan.length pc, .int .i64 hei, .slice ta top.length tc, .slice ba bot.length bc, .int .i64 slo, .bool opn] 24)).tr (Gr.al _ (.cells #[.int .i64 cl, .int .i64 ch] 37))
  have hB := (Box.new w [.int .i64 tab, .slice pa pan.length pc, .int .i64 hei, .slice ta top.length tc, .slice ba bot.length bc, .int .i64 slo, .bool opn] 24 w.heap.size rfl).keep (Gr.al _ (.cells #[.int .i64 cl, .int .i64 ch] 37))
  have hC := Box.new (w.alloc (.cells #[.int .i64 tab, .slice pa pan.length pc, .int .i64 hei, .slice ta top.length tc, .slice ba bot.length bc, .int .i64 slo, .bool opn] 24)) [.int .i64 cl, .int .i64 ch] 37 (w.heap.size + 1) (by simp)
  have HG := Lib.hid G
  have HTH := Lib.hid hth
  have HT : Hid (∀ x ∈ thing, 0 ≤ x ∧ x ≤ 3000) := Lib.hid (fun x hx => by
    obtain ⟨k, hk⟩ := List.getElem?_of_mem hx
    exact in_at hth hk)
  have HL := Lib.hid hl
  have hcb : 0 ≤ cl ∧ cl ≤ 10000 ∧ 0 ≤ ch ∧ ch ≤ 10000 := by
    simp only [okSpan, inB, in1, List.all_cons, List.all_nil, Bool.and_true, Bool.and_eq_true, decide_eq_true_eq] at hc
    omega
  have hcs : ([⟨cl, ch⟩] : List Sp).all (okSp 1 10000) = true := by simpa [okSp] using hc
  have HCS := Lib.hid hcs
  obtain ⟨cb0, cb1, cb2, cb3⟩ := hcb
  clear G hc hcs hth
  go_enter Try.func35, Try.ntmps35
  go_wp2
  refine wp_abs (fun W => Gr w W ∧ Box W w.heap.size [.int .i64 tab, .slice pa pan.length pc, .int .i64 hei, .slice ta top.length tc, .slice ba bot.length bc, .int .i64 slo, .bool opn] ∧ Box W (w.heap.size + 1) [.int .i64 cl, .int .i64 ch]) ⟨gg, hB, hC⟩ ?_
  clear gg hB hC
  rintro W ⟨gg, hB, hC⟩
  have gX := Gr.dr W
  have gA := (Gr.al W (.cells #[.int .i64 cl, .int .i64 ch] 37)).tr (Gr.dr _)
  have rA := (SRow.new1 W 37 cl ch W.heap.size rfl).grow (Gr.dr _)
  obtain ⟨f0, f1, f2, f3, f4, f5, f6⟩ := (hB.keep gA).c7
  obtain ⟨p0, p1⟩ := (hC.keep gA).c2
  obtain ⟨e0, e1, e2, e3, e4, e5, e6⟩ := (hB.keep gX).c7
  obtain ⟨q0, q1⟩ := (hC.keep gX).c2
  go_region_held3 (fun w' => w'.cell? ⟨w.heap.size + 1, 0, none⟩ = some (.int .i64 cl) ∧ w'.cell? ⟨w.heap.size + 1, 1, none⟩ = some (.int .i64 ch) ∧ w'.cell? ⟨w.heap.size, 0, none⟩ = some (.int .i64 tab) ∧ w'.cell? ⟨w.heap.size, 1, none⟩ = some (.slice pa pan.length pc) ∧ w'.cell? ⟨w.heap.size, 2, none⟩ = some (.int .i64 hei) ∧ w'.cell? ⟨w.heap.size, 3, none⟩ = some (.slice ta top.length tc) ∧ w'.cell? ⟨w.heap.size, 4, none⟩ = some (.slice ba bot.length bc) ∧ w'.cell? ⟨w.heap.size, 5, none⟩ = some (.int .i64 slo) ∧ w'.cell? ⟨w.heap.size, 6, none⟩ = some (.bool opn)) (first | exact ⟨q0, q1, e0, e1, e2, e3, e4, e5, e6⟩ | exact ⟨p0, p1, f0, f1, f2, f3, f4, f5, f6⟩ | go_keep) (first
    | (go_at_call 17; (refine (checkB_ok _ _ _ _ _ _ _ _ _ _ _ _ _ HG.out _ ?_ ?_ ?_).mono ?_); (first | exact hp.grow (gg.tr gX) | exact hp.grow (gg.tr gA)); (first | exact ht.grow (gg.tr gX) | exact ht.grow (gg.tr gA)); (first | exact hb.grow (gg.tr gX) | exact hb.grow (gg.tr gA)); rintro e w3 ⟨rfl, hx⟩; have g3 : Gr _ w3 := (by first | exact gX.tr hx | exact gA.tr hx); (obtain ⟨e0, e1, e2, e3, e4, e5, e6⟩ := (hB.keep g3).c7); obtain ⟨q0, q1⟩ := (hC.keep g3).c2)
    | (go_at_call 66; (refine (measured_ok [⟨cl, ch⟩] HCS.out _ _ _ ?_).mono ?_); (first | exact SRow.new1 _ _ _ _ _ rfl | exact rA.grow hx); rintro e w4 ⟨rfl, hy⟩; have g4 : Gr _ w4 := (by first | exact g3.tr hy | exact g3.tr ((Gr.al _ _).tr hy)); (obtain ⟨e0, e1, e2, e3, e4, e5, e6⟩ := (hB.keep g4).c7); obtain ⟨q0, q1⟩ := (hC.keep g4).c2)
    | (go_at_call 65; (refine (first_two _ _ _ (zeros_row2 _ _)).mono ?_); rintro e w6 ⟨rfl, hv⟩; have g6 := g4.tr ((Gr.al _ _).tr hv); (obtain ⟨e0, e1, e2, e3, e4, e5, e6⟩ := (hB.keep g6).c7); obtain ⟨q0, q1⟩ := (hC.keep g6).c2))
  all_goals
    have gW := gg.tr g6
    have bB := hB.keep g6
    have bC := hC.keep g6
    clear e0 e1 e2 e3 e4 e5 e6 q0 q1 p0 p1 f0 f1 f2 f3 f4 f5 f6 gA rA hx hy hv g3 g4 g6 gX gg hB hC
    obtain ⟨e0, e1, e2, e3, e4, e5, e6⟩ := bB.c7
    go_wp2_with (first
      | (go_at_call 63; (refine (within_three thing HL.out HTH.out _ _ _ (htd.grow gW)).mono ?_); rintro e w7 ⟨rfl, hg⟩; replace gW := gW.tr hg; replace bB := bB.keep hg; replace bC := bC.keep hg; clear e0 e1 e2 e3 e4 e5 e6; (obtain ⟨e0, e1, e2, e3, e4, e5, e6⟩ := bB.c7))
      | (go_at_call 68; (refine (layS_any _ _ _ _ _ _ _ _ _ _ _ _ _ _ _).mono ?_); rintro e w8 ⟨rfl, hx⟩; replace gW := gW.tr hx; replace bC := bC.keep hx))
    have gV := Gr.al w8 (.cells #[.int .i64 tab, .slice pa pan.length pc, .int .i64 hei, .slice ta top.length tc, .slice ba bot.length bc, .int .i64 slo, .bool opn, .int .i64 0, .slice ta top.length tc, .slice ba bot.length bc] 124)
    have bX := Box.new w8 [.int .i64 tab, .slice pa pan.length pc, .int .i64 hei, .slice ta top.length tc, .slice ba bot.length bc, .int .i64 slo, .bool opn, .int .i64 0, .slice ta top.length tc, .slice ba bot.length bc] 124 w8.heap.size rfl
    have gW9 := gW.tr gV
    have bC9 := bC.keep gV
    clear e0 e1 e2 e3 e4 e5 e6 bB bC gW
    refine wp_abs (fun V => Gr w V ∧ Box V w8.heap.size [.int .i64 tab, .slice pa pan.length pc, .int .i64 hei, .slice ta top.length tc, .slice ba bot.length bc, .int .i64 slo, .bool opn, .int .i64 0, .slice ta top.length tc, .slice ba bot.length bc] ∧ Box V (w.heap.size + 1) [.int .i64 cl, .int .i64 ch]) ⟨gW9, bX, bC9⟩ ?_
    clear gW9 bX bC9 gV
    rintro V ⟨gV, bX, bC⟩
    have gX := Gr.dr V
    have tok1 : True := trivial
    obtain ⟨e0, e1, e2, e3, e4, e5, e6, e7, e8, e9⟩ := (bX.keep gX).c10
    obtain ⟨q0, q1⟩ := (bC.keep gX).c2
    go_region_held3 (fun w' => w'.cell? ⟨w.heap.size + 1, 0, none⟩ = some (.int .i64 cl) ∧ w'.cell? ⟨w.heap.size + 1, 1, none⟩ = some (.int .i64 ch) ∧ w'.cell? ⟨w8.heap.size, 0, none⟩ = some (.int .i64 tab) ∧ w'.cell? ⟨w8.heap.size, 1, none⟩ = some (.slice pa pan.length pc) ∧ w'.cell? ⟨w8.heap.size, 2, none⟩ = some (.int .i64 hei) ∧ w'.cell? ⟨w8.heap.size, 3, none⟩ = some (.slice ta top.length tc) ∧ w'.cell? ⟨w8.heap.size, 4, none⟩ = some (.slice ba bot.length bc) ∧ w'.cell? ⟨w8.heap.size, 5, none⟩ = some (.int .i64 slo) ∧ w'.cell? ⟨w8.heap.size, 6, none⟩ = some (.bool opn) ∧ w'.cell? ⟨w8.heap.size, 7, none⟩ = some (.int .i64 0) ∧ w'.cell? ⟨w8.heap.size, 8, none⟩ = some (.slice ta top.length tc) ∧ w'.cell? ⟨w8.heap.size, 9, none⟩ = some (.slice ba bot.length bc)) (first | exact ⟨q0, q1, e0, e1, e2, e3, e4, e5, e6, e7, e8, e9⟩ | go_keep) (first
      | (go_at_call 80; have _t := tok1; clear tok1 _t; (refine (fits_three _ _ _ _ _ _ _ _ _ _ _ _ _ ch thing HG.out cb2 cb3 HL.out HT.out _ _ _ (hp.grow (gV.tr gX)) (ht.grow (gV.tr gX)) (hb.grow (gV.tr gX)) (htd.grow (gV.tr gX))).mono ?_); rintro e w10 ⟨rfl, hy⟩; replace gX := gX.tr hy; (obtain ⟨e0, e1, e2, e3, e4, e5, e6, e7, e8, e9⟩ := (bX.keep gX).c10); obtain ⟨q0, q1⟩ := (bC.keep gX).c2)
      | (go_at_call 80; (refine (fits_three _ _ _ _ _ _ _ _ _ _ _ _ _ cl thing HG.out cb0 cb1 HL.out HT.out _ _ _ (hp.grow (gV.tr gX)) (ht.grow (gV.tr gX)) (hb.grow (gV.tr gX)) (htd.grow (gV.tr gX))).mono ?_); rintro e w10 ⟨rfl, hy⟩; replace gX := gX.tr hy; (obtain ⟨e0, e1, e2, e3, e4, e5, e6, e7, e8, e9⟩ := (bX.keep gX).c10); obtain ⟨q0, q1⟩ := (bC.keep gX).c2))
    all_goals
      go_wp2
      refine bodyPost_ret (v := .tuple #[.bool (fitsL thing (fitsBox 0 hei pan top bot opn ch)), .bool (fitsL thing (fitsBox 0 hei pan top bot opn cl)), .int .i64 0]) (by simp [results, Try.results35, go_sem]) rfl ⟨rfl, ?_⟩
      exact gV.tr gX

end Go.Proofs.Ytoihnilgmdcndaa

namespace Go.Proofs.Ytoihnilgmdcndaa
set_option linter.unusedVariables false
set_option linter.unusedSimpArgs false
open Go.RowKit

end Go.Proofs.Ytoihnilgmdcndaa

namespace Go.Proofs.Ytoihnilgmdcndaa
set_option linter.unusedVariables false
set_option linter.unusedSimpArgs false
open Go.RowKit

def CStore (ps : List Paper) (fs : List Flute) (v : World) (A : List (Option Addr)) (t : Value) : Prop := ∃ a ac g gc, t = .agg #[.slice a ps.length ac, .slice g fs.length gc] ∧ PRow v a ps ∧ FRow v g fs ∧ a ∈ A ∧ g ∈ A

def CMade (mp mf : List Int) (v : World) (A : List (Option Addr)) (t : Value) : Prop := ∃ a ac g gc, t = .agg #[.slice a mp.length ac, .slice g mf.length gc] ∧ IRow v a mp ∧ IRow v g mf ∧ a ∈ A ∧ g ∈ A

def CBlank (tab hei slo : Int) (pan top bot : List Int) (opn : Bool) (v : World) (A : List (Option Addr)) (t : Value) : Prop := ∃ pa pc ta tc ba bc, t = .agg #[.int .i64 tab, .slice pa pan.length pc, .int .i64 hei, .slice ta top.length tc, .slice ba bot.length bc, .int .i64 slo, .bool opn] ∧ IRow v pa pan ∧ IRow v ta top ∧ IRow v ba bot ∧ pa ∈ A ∧ ta ∈ A ∧ ba ∈ A

def CPtr (zs : List Value) (ty : TypeId) (v : World) (Bs : List Nat) (t : Value) : Prop := ∃ B, t = .pointer (some ⟨B, 0, none⟩) ∧ B ∈ Bs ∧ Blk v B zs ty

theorem CStore.up {ps : List Paper} {fs : List Flute} {v v' : World} {A A' : List (Option Addr)} {t : Value} (h : CStore ps fs v A t) (g : Gr v v') (hA : ∀ x ∈ A, x ∈ A') : CStore ps fs v' A' t := by
  obtain ⟨a, ac, b, bc, e, r1, r2, m1, m2⟩ := h
  exact ⟨a, ac, b, bc, e, r1.grow g, r2.grow g, hA _ m1, hA _ m2⟩

theorem CMade.up {mp mf : List Int} {v v' : World} {A A' : List (Option Addr)} {t : Value} (h : CMade mp mf v A t) (g : Gr v v') (hA : ∀ x ∈ A, x ∈ A') : CMade mp mf v' A' t := by
  obtain ⟨a, ac, b, bc, e, r1, r2, m1, m2⟩ := h
  exact ⟨a, ac, b, bc, e, r1.grow g, r2.grow g, hA _ m1, hA _ m2⟩

theorem CBlank.up {tab hei slo : Int} {pan top bot : List Int} {opn : Bool} {v v' : World} {A A' : List (Option Addr)} {t : Value} (h : CBlank tab hei slo pan top bot opn v A t) (g : Gr v v') (hA : ∀ x ∈ A, x ∈ A') : CBlank tab hei slo pan top bot opn v' A' t := by
  obtain ⟨pa, pc, ta, tc, ba, bc, e, r1, r2, r3, m1, m2, m3⟩ := h
  exact ⟨pa, pc, ta, tc, ba, bc, e, r1.grow g, r2.grow g, r3.grow g, hA _ m1, hA _ m2, hA _ m3⟩

theorem CPtr.up {zs : List Value} {ty : TypeId} {v v' : World} {Bs Bs' : List Nat} {t : Value} (h : CPtr zs ty v Bs t) (g : Gr v v') (hB : ∀ x ∈ Bs, x ∈ Bs') : CPtr zs ty v' Bs' t := by
  obtain ⟨B, e, m, k⟩ := h
  exact ⟨B, e, hB _ m, k.keep g⟩

theorem CPtr.new (w : World) (zs : List Value) (ty : TypeId) (Bs : List Nat) : CPtr zs ty (w.alloc (.cells zs.toArray ty)) (w.heap.size :: Bs) (.pointer (some ⟨w.heap.size, 0, none⟩)) := ⟨_, rfl, by simp, Blk.new w zs ty⟩

theorem Sep.st {w0 w : World} {A : List (Option Addr)} {Bs : List Nat} (h : Sep w0 w A Bs) {B : Nat} (hB : B ∈ Bs) (i : Nat) (u : Value) : Sep w0 (w.setCell ⟨B, i, none⟩ u) A Bs :=
  ⟨h.gr.setCell (h.bs B hB).1 u, fun C hC => ⟨(h.bs C hC).1, by simpa using (h.bs C hC).2⟩, fun x hx => by
    obtain ⟨b, off, e, hb, hne⟩ := h.ro x hx
    exact ⟨b, off, e, by simpa using hb, hne⟩⟩

theorem CStore.st {w0 v : World} {A : List (Option Addr)} {Bs : List Nat} {ps : List Paper} {fs : List Flute} {t : Value} (h : CStore ps fs v A t) (hs : Sep w0 v A Bs) {B : Nat} (hB : B ∈ Bs) (i : Nat) (u : Value) : CStore ps fs (v.setCell ⟨B, i, none⟩ u) A t := by
  obtain ⟨a, ac, b, bc, e, r1, r2, m1, m2⟩ := h
  exact ⟨a, ac, b, bc, e, r1.setAt (hs.apart m1 hB) i u, r2.setAt (hs.apart m2 hB) i u, m1, m2⟩

theorem CMade.st {w0 v : World} {A : List (Option Addr)} {Bs : List Nat} {mp mf : List Int} {t : Value} (h : CMade mp mf v A t) (hs : Sep w0 v A Bs) {B : Nat} (hB : B ∈ Bs) (i : Nat) (u : Value) : CMade mp mf (v.setCell ⟨B, i, none⟩ u) A t := by
  obtain ⟨a, ac, b, bc, e, r1, r2, m1, m2⟩ := h
  exact ⟨a, ac, b, bc, e, r1.setAt (hs.apart m1 hB) i u, r2.setAt (hs.apart m2 hB) i u, m1, m2⟩

/-- A pointer to a new variable of two cells, whatever they hold. -/
def CTwo (v : World) (Bs : List Nat) (t : Value) : Prop := ∃ B x y, t = .pointer (some ⟨B, 0, none⟩) ∧ B ∈ Bs ∧ Own v B [x, y]

theorem CTwo.up {v v' : World} {Bs Bs' : List Nat} {t : Value} (h : CTwo v Bs t) (g : Gr v v') (hB : ∀ x ∈ Bs, x ∈ Bs') : CTwo v' Bs' t := by
  obtain ⟨B, x, y, e, m, k⟩ := h
  exact ⟨B, x, y, e, hB _ m, k.keep g⟩

theorem CTwo.new (w : World) (x y : Value) (ty : TypeId) (Bs : List Nat) : CTwo (w.alloc (.cells #[x, y] ty)) (w.heap.size :: Bs) (.pointer (some ⟨w.heap.size, 0, none⟩)) := ⟨_, x, y, rfl, by simp, Own.new w [x, y] ty w.heap.size rfl⟩

theorem CTwo.st {v : World} {Bs : List Nat} {t : Value} (h : CTwo v Bs t) (C : Nat) (u0 u1 : Value) : CTwo ((v.setCell ⟨C, 0, none⟩ u0).setCell ⟨C, 1, none⟩ u1) Bs t := by
  obtain ⟨B, x, y, e, m, k⟩ := h
  by_cases hc : B = C
  · subst hc
    exact ⟨B, u0, u1, e, m, (k.set (i := 0) (v := u0) (by simp)).set (i := 1) (v := u1) (by simp)⟩
  · exact ⟨B, x, y, e, m, (k.other hc).other hc⟩

/-- .. and what it holds. -/
def CTold (vs : List Value) (v : World) (t : Value) : Prop := ∃ B, t = .pointer (some ⟨B, 0, none⟩) ∧ Box v B vs

theorem CTold.up {vs : List Value} {v v' : World} {t : Value} (h : CTold vs v t) (g : Gr v v') : CTold vs v' t := by
  obtain ⟨B, e, k⟩ := h
  exact ⟨B, e, k.keep g⟩

theorem mem_con {α : Type} (B : α) (A : List α) : ∀ x ∈ A, x ∈ B :: A := fun _ h => List.mem_cons_of_mem _ h

theorem mem_same {α : Type} (A : List α) : ∀ x ∈ A, x ∈ A := fun _ h => h

end Go.Proofs.Ytoihnilgmdcndaa

namespace Go.Proofs.Ytoihnilgmdcndaa
set_option linter.unusedVariables false
set_option linter.unusedSimpArgs false
open Go.RowKit

def playAt (hei : Int) (pan top bot : List Int) (opn : Bool) (cl ch : Int) (hei' : Int) (pan' top' bot' : List Int) (opn' : Bool) (cl' ch' : Int) (k : Nat) : Sp :=
 lessL (innerAt 0 hei pan top bot opn cl ch k) [flatAt 0 hei' pan' top' bot' opn' k, ⟨cl', ch'⟩]

def playL (hei : Int) (pan top bot : List Int) (opn : Bool) (cl ch : Int) (hei' : Int) (pan' top' bot' : List Int) (opn' : Bool) (cl' ch' : Int) (n : Nat) : List Sp :=
 (List.range n).map (playAt hei pan top bot opn cl ch hei' pan' top' bot' opn' cl' ch')

def CSp (l : List Sp) (v : World) (t : Value) : Prop := ∃ a c, t = .slice a l.length c ∧ SRow v a l

theorem CSp.up {l : List Sp} {v v' : World} {t : Value} (h : CSp l v t) (g : Gr v v') : CSp l v' t := by
 obtain ⟨a, c, e, r⟩ := h
 exact ⟨a, c, e, r.grow g⟩

def CIn (l : List Int) (v : World) (t : Value) : Prop := ∃ a c, t = .slice a l.length c ∧ IRow v a l

theorem CIn.up {l : List Int} {v v' : World} {t : Value} (h : CIn l v t) (g : Gr v v') : CIn l v' t := by
 obtain ⟨a, c, e, r⟩ := h
 exact ⟨a, c, e, r.grow g⟩

/-- A slice of one new span. -/
def COne (lo hi : Int) (v : World) (t : Value) : Prop := ∃ b, t = .slice (some ⟨b, 0, none⟩) 1 1 ∧ b < v.heap.size ∧ Box v b [.int .i64 lo, .int .i64 hi]

theorem COne.up {lo hi : Int} {v v' : World} {t : Value} (h : COne lo hi v t) (g : Gr v v') : COne lo hi v' t := by
 obtain ⟨b, e, hb, r⟩ := h
 exact ⟨b, e, Nat.lt_of_lt_of_le hb g.size, r.keep g⟩

theorem Box.news {v : World} {b : Nat} {vs : List Value} (h : Box v b vs) : ∀ (j : Nat) (u : Value), vs[j]? = some u → v.cell? ((⟨b, 0, none⟩ : Addr).add j) = some u := by
 intro j u hu
 have hc := h.2 j u hu
 unfold Addr.add
 split
 ·rename_i h0
  subst h0
  exact hc
 ·simpa using hc

theorem inner_bd {tab hei slo : Int} {pan top bot : List Int} {opn : Bool} {cl ch : Int} (G : GoodB tab hei slo pan top bot opn) (c0 : 0 ≤ cl) (c1 : cl ≤ 10000) (c2 : 0 ≤ ch) (c3 : ch ≤ 10000) {k : Nat} (hk : k < 9) : SpB 1000000000 (innerAt 0 hei pan top bot opn cl ch k) := by
 obtain ⟨a, b, c, d⟩ := flat_bd (off := 0) G (by omega) (by omega) hk
 have hL : lostL k opn = 1 ∨ lostL k opn = 2 := by unfold lostL; split <;> simp
 unfold innerAt insideS
 rcases hL with e | e <;> rw [e] <;> exact ⟨by simp only; omega, by simp only; omega, by simp only; omega, by simp only; omega⟩

theorem okSpan_four {cl ch : Int} (hc : okSpan 1 10000 cl ch = true) : 0 ≤ cl ∧ cl ≤ 10000 ∧ 0 ≤ ch ∧ ch ≤ 10000 := by
 simp only [okSpan, inB, in1, List.all_cons, List.all_nil, Bool.and_true, Bool.and_eq_true, decide_eq_true_eq] at hc
 omega

theorem two_bd {f : Sp} {cl ch : Int} (hf : SpB 10000000 f) (c0 : 0 ≤ cl) (c1 : cl ≤ 10000) (c2 : 0 ≤ ch) (c3 : ch ≤ 10000) : ∀ x ∈ ([f, ⟨cl, ch⟩] : List Sp), SpB 1000000000 x := by
 obtain ⟨a, b, c, d⟩ := hf
 intro x hx
 simp at hx
 rcases hx with rfl | rfl
 ·exact ⟨by omega, by omega, by omega, by omega⟩
 ·exact ⟨by simp only; omega, by simp only; omega, by simp only; omega, by simp only; omega⟩

set_option maxRecDepth 100000 in
set_option maxHeartbeats 4000000 in
theorem play_ok (tab hei slo : Int) (pan top bot : List Int) (pa ta ba : Option Addr) (pc tc bc : Nat) (opn : Bool) (tab' hei' slo' : Int) (pan' top' bot' : List Int) (pa' ta' ba' : Option Addr) (pc' tc' bc' : Nat) (opn' : Bool) (cl ch cl' ch' : Int) (G : GoodB tab hei slo pan top bot opn) (G' : GoodB tab' hei' slo' pan' top' bot' opn') (hc : okSpan 1 10000 cl ch = true) (hc' : okSpan 1 10000 cl' ch' = true) (w : World)
  (hp : IRow w pa pan) (ht : IRow w ta top) (hb : IRow w ba bot) (hp' : IRow w pa' pan') (ht' : IRow w ta' top') (hb' : IRow w ba' bot') :
  Calls Try.prog 32 #[.agg #[.int .i64 tab, .slice pa pan.length pc, .int .i64 hei, .slice ta top.length tc, .slice ba bot.length bc, .int .i64 slo, .bool opn], .agg #[.int .i64 tab', .slice pa' pan'.length pc', .int .i64 hei', .slice ta' top'.length tc', .slice ba' bot'.length bc', .int .i64 slo', .bool opn'], .agg #[.int .i64 cl, .int .i64 ch], .agg #[.int .i64 cl', .int .i64 ch']] w (SpansPost (playL hei pan top bot opn cl ch hei' pan' top' bot' opn' cl' ch' 4) w) := by
 have gg := (((Gr.al w (.cells #[.int .i64 tab, .slice pa pan.length pc, .int .i64 hei, .slice ta top.length tc, .slice ba bot.length bc, .int .i64 slo, .bool opn] 24)).tr (Gr.al _ (.cells #[.int .i64 tab', .slice pa' pan'.length pc', .int .i64 hei', .slice ta' top'.length tc', .slice ba' bot'.length bc', .int .i64 slo', .bool opn'] 24))).tr (Gr.al _ (.cells #[.int .i64 cl, .int .i64 ch] 37))).tr (Gr.al _ (.cells #[.int .i64 cl', .int .i64 ch'] 37))
 have hB := (((Box.new w [.int .i64 tab, .slice pa pan.length pc, .int .i64 hei, .slice ta top.length tc, .slice ba bot.length bc, .int .i64 slo, .bool opn] 24 w.heap.size rfl).keep (Gr.al _ (.cells #[.int .i64 tab', .slice pa' pan'.length pc', .int .i64 hei', .slice ta' top'.length tc', .slice ba' bot'.length bc', .int .i64 slo', .bool opn'] 24))).keep (Gr.al _ (.cells #[.int .i64 cl, .int .i64 ch] 37))).keep (Gr.al _ (.cells #[.int .i64 cl', .int .i64 ch'] 37))
 have hB' := ((Box.new (w.alloc (.cells #[.int .i64 tab, .slice pa pan.length pc, .int .i64 hei, .slice ta top.length tc, .slice ba bot.length bc, .int .i64 slo, .bool opn] 24)) [.int .i64 tab', .slice pa' pan'.length pc', .int .i64 hei', .slice ta' top'.length tc', .slice ba' bot'.length bc', .int .i64 slo', .bool opn'] 24 (w.heap.size + 1) (by simp)).keep (Gr.al _ (.cells #[.int .i64 cl, .int .i64 ch] 37))).keep (Gr.al _ (.cells #[.int .i64 cl', .int .i64 ch'] 37))
 have hC := (Box.new ((w.alloc (.cells #[.int .i64 tab, .slice pa pan.length pc, .int .i64 hei, .slice ta top.length tc, .slice ba bot.length bc, .int .i64 slo, .bool opn] 24)).alloc (.cells #[.int .i64 tab', .slice pa' pan'.length pc', .int .i64 hei', .slice ta' top'.length tc', .slice ba' bot'.length bc', .int .i64 slo', .bool opn'] 24)) [.int .i64 cl, .int .i64 ch] 37 (w.heap.size + 1 + 1) (by simp)).keep (Gr.al _ (.cells #[.int .i64 cl', .int .i64 ch'] 37))
 have hC' := Box.new (((w.alloc (.cells #[.int .i64 tab, .slice pa pan.length pc, .int .i64 hei, .slice ta top.length tc, .slice ba bot.length bc, .int .i64 slo, .bool opn] 24)).alloc (.cells #[.int .i64 tab', .slice pa' pan'.length pc', .int .i64 hei', .slice ta' top'.length tc', .slice ba' bot'.length bc', .int .i64 slo', .bool opn'] 24)).alloc (.cells #[.int .i64 cl, .int .i64 ch] 37)) [.int .i64 cl', .int .i64 ch'] 37 (w.heap.size + 1 + 1 + 1) (by simp)
 have HG := Lib.hid G
 have HG' := Lib.hid G'
 have hcb := okSpan_four hc
 have hcb' := okSpan_four hc'
 have HCB := Lib.hid hcb
 have HCB' := Lib.hid hcb'
 have HCS : Hid (([⟨cl, ch⟩, ⟨cl', ch'⟩] : List Sp).all (okSp 1 10000) = true) := Lib.hid (by simp only [List.all_cons, List.all_nil, okSp, hc, hc', Bool.and_self])
 clear G G' hc hc' hcb hcb'
 go_enter Try.func32, Try.ntmps32
 go_upto_region 1 with fail
 refine wp_abs (fun W => Gr w W ∧ Box W w.heap.size [.int .i64 tab, .slice pa pan.length pc, .int .i64 hei, .slice ta top.length tc, .slice ba bot.length bc, .int .i64 slo, .bool opn] ∧ Box W (w.heap.size + 1) [.int .i64 tab', .slice pa' pan'.length pc', .int .i64 hei', .slice ta' top'.length tc', .slice ba' bot'.length bc', .int .i64 slo', .bool opn'] ∧ Box W (w.heap.size + 1 + 1) [.int .i64 cl, .int .i64 ch] ∧ Box W (w.heap.size + 1 + 1 + 1) [.int .i64 cl', .int .i64 ch']) ⟨gg, hB, hB', hC, hC'⟩ ?_
 clear gg hB hB' hC hC'
 rintro W ⟨gg, hB, hB', hC, hC'⟩
 refine wp_region_inv' 10 [(1, 0), (3, 2), (6, 4), (6, 5), (7, 6), (8, 1), (8, 3), (8, 7), (9, 8)] (fun a0 listed a v => ∃ (t15 t16 t17 t18 t19 t20 t21 t22 t23 t24 : Value), a = ⟨#[.agg #[.int .i64 tab, .slice pa pan.length pc, .int .i64 hei, .slice ta top.length tc, .slice ba bot.length bc, .int .i64 slo, .bool opn], .agg #[.int .i64 tab', .slice pa' pan'.length pc', .int .i64 hei', .slice ta' top'.length tc', .slice ba' bot'.length bc', .int .i64 slo', .bool opn'], .agg #[.int .i64 cl, .int .i64 ch], .agg #[.int .i64 cl', .int .i64 ch'], .pointer (some ⟨w.heap.size, 0, none⟩), .pointer (some ⟨(w.heap.size + 1), 0, none⟩), .pointer (some ⟨(w.heap.size + 1 + 1), 0, none⟩), .pointer (some ⟨(w.heap.size + 1 + 1 + 1), 0, none⟩), .slice none 0 0, .int .i64 0, undef, undef, undef, undef, undef, t15, t16, t17, t18, t19, t20, t21, t22, t23, t24, undef, undef, undef, undef, undef, undef, undef, undef, undef, undef, undef, undef, undef, undef, undef, undef, undef, undef, undef, undef, undef, undef, undef, undef, undef, undef], []⟩ ∧ Gr W v ∧ Fact listed 0 (t15 = .agg #[.int .i64 tab, .slice pa pan.length pc, .int .i64 hei, .slice ta top.length tc, .slice ba bot.length bc, .int .i64 slo, .bool opn]) ∧ Fact listed 1 (t16 = .int .i64 0) ∧ Fact listed 2 (t17 = .agg #[.int .i64 tab', .slice pa' pan'.length pc', .int .i64 hei', .slice ta' top'.length tc', .slice ba' bot'.length bc', .int .i64 slo', .bool opn']) ∧ Fact listed 3 (t18 = .int .i64 0) ∧ Fact listed 4 (t19 = .agg #[.int .i64 cl, .int .i64 ch]) ∧ Fact listed 5 (t20 = .agg #[.int .i64 cl', .int .i64 ch']) ∧ Fact listed 6 (CSp [⟨cl, ch⟩, ⟨cl', ch'⟩] v t21) ∧ Fact listed 7 (t22 = .int .i64 0) ∧ Fact listed 8 (CIn [0, 0, 0] v t23) ∧ Fact listed 9 (t24 = .int .i64 0)) (by kernel_rfl) (by kernel_rfl) (by kernel_rfl) ?init1 ?step1 ?fin1
 case init1 => exact ⟨_, _, _, _, _, _, _, _, _, _, by rfl, Gr.dr W, Fact.no _ _ _, Fact.no _ _ _, Fact.no _ _ _, Fact.no _ _ _, Fact.no _ _ _, Fact.no _ _ _, Fact.no _ _ _, Fact.no _ _ _, Fact.no _ _ _, Fact.no _ _ _⟩
 case step1 =>
  rintro i hi listed a v hun hdep ⟨t15, t16, t17, t18, t19, t20, t21, t22, t23, t24, rfl, gv, f0, f1, f2, f3, f4, f5, f6, f7, f8, f9⟩
  have hi8 : i = 0 ∨ i = 1 ∨ i = 2 ∨ i = 3 ∨ i = 4 ∨ i = 5 ∨ i = 6 ∨ i = 7 ∨ i = 8 ∨ i = 9 := by omega
  rcases hi8 with rfl | rfl | rfl | rfl | rfl | rfl | rfl | rfl | rfl | rfl
  ·clear hdep
   refine wpOp_step rfl (fun K' hK => ?_)
   rw [if_pos (by rfl)]
   refine wp_load_mid 24 _ rfl w.heap.size 0 (by rfl) [.int .i64 tab, .slice pa pan.length pc, .int .i64 hei, .slice ta top.length tc, .slice ba bot.length bc, .int .i64 slo, .bool opn] _ (fun j u hu => by rw [Nat.zero_add]; exact (hB.keep gv).2 j u hu) Try.underlying24 rfl (by kernel_rfl) ?_
   exact hK _ _ ⟨_, t16, t17, t18, t19, t20, t21, t22, t23, t24, by rfl, gv, Fact.lay (rfl), f1.keep (by decide), f2.keep (by decide), f3.keep (by decide), f4.keep (by decide), f5.keep (by decide), f6.keep (by decide), f7.keep (by decide), f8.keep (by decide), f9.keep (by decide)⟩
  ·have d0 := f0 (hdep 0 (by simp))
   subst d0
   clear hdep
   refine wpOp_step rfl (fun K' hK => ?_)
   go_simp
   refine (checkB_ok _ _ _ _ _ _ _ _ _ _ _ _ _ HG.out v (hp.grow (gg.tr gv)) (ht.grow (gg.tr gv)) (hb.grow (gg.tr gv))).mono ?_
   rintro e v' ⟨rfl, hg⟩
   exact hK _ _ ⟨_, _, t17, t18, t19, t20, t21, t22, t23, t24, by rfl, gv.tr hg, f0.keep (by decide), Fact.lay (rfl), f2.keep (by decide), f3.keep (by decide), f4.keep (by decide), f5.keep (by decide), (f6.keep (by decide)).map (fun h => h.up hg), f7.keep (by decide), (f8.keep (by decide)).map (fun h => h.up hg), f9.keep (by decide)⟩
  ·clear hdep
   refine wpOp_step rfl (fun K' hK => ?_)
   rw [if_pos (by rfl)]
   refine wp_load_mid 24 _ rfl (w.heap.size + 1) 0 (by rfl) [.int .i64 tab', .slice pa' pan'.length pc', .int .i64 hei', .slice ta' top'.length tc', .slice ba' bot'.length bc', .int .i64 slo', .bool opn'] _ (fun j u hu => by rw [Nat.zero_add]; exact (hB'.keep gv).2 j u hu) Try.underlying24 rfl (by kernel_rfl) ?_
   exact hK _ _ ⟨t15, t16, _, t18, t19, t20, t21, t22, t23, t24, by rfl, gv, f0.keep (by decide), f1.keep (by decide), Fact.lay (rfl), f3.keep (by decide), f4.keep (by decide), f5.keep (by decide), f6.keep (by decide), f7.keep (by decide), f8.keep (by decide), f9.keep (by decide)⟩
  ·have d2 := f2 (hdep 2 (by simp))
   subst d2
   clear hdep
   refine wpOp_step rfl (fun K' hK => ?_)
   go_simp
   refine (checkB_ok _ _ _ _ _ _ _ _ _ _ _ _ _ HG'.out v (hp'.grow (gg.tr gv)) (ht'.grow (gg.tr gv)) (hb'.grow (gg.tr gv))).mono ?_
   rintro e v' ⟨rfl, hg⟩
   exact hK _ _ ⟨t15, t16, _, _, t19, t20, t21, t22, t23, t24, by rfl, gv.tr hg, f0.keep (by decide), f1.keep (by decide), f2.keep (by decide), Fact.lay (rfl), f4.keep (by decide), f5.keep (by decide), (f6.keep (by decide)).map (fun h => h.up hg), f7.keep (by decide), (f8.keep (by decide)).map (fun h => h.up hg), f9.keep (by decide)⟩
  ·clear hdep
   refine wpOp_step rfl (fun K' hK => ?_)
   rw [if_pos (by rfl)]
   refine wp_load_mid 37 _ rfl (w.heap.size + 1 + 1) 0 (by rfl) [.int .i64 cl, .int .i64 ch] _ (fun j u hu => by rw [Nat.zero_add]; exact (hC.keep gv).2 j u hu) Try.underlying37 rfl (by kernel_rfl) ?_
   exact hK _ _ ⟨t15, t16, t17, t18, _, t20, t21, t22, t23, t24, by rfl, gv, f0.keep (by decide), f1.keep (by decide), f2.keep (by decide), f3.keep (by decide), Fact.lay (rfl), f5.keep (by decide), f6.keep (by decide), f7.keep (by decide), f8.keep (by decide), f9.keep (by decide)⟩
  ·clear hdep
   refine wpOp_step rfl (fun K' hK => ?_)
   rw [if_pos (by rfl)]
   refine wp_load_mid 37 _ rfl (w.heap.size + 1 + 1 + 1) 0 (by rfl) [.int .i64 cl', .int .i64 ch'] _ (fun j u hu => by rw [Nat.zero_add]; exact (hC'.keep gv).2 j u hu) Try.underlying37 rfl (by kernel_rfl) ?_
   exact hK _ _ ⟨t15, t16, t17, t18, t19, _, t21, t22, t23, t24, by rfl, gv, f0.keep (by decide), f1.keep (by decide), f2.keep (by decide), f3.keep (by decide), f4.keep (by decide), Fact.lay (rfl), f6.keep (by decide), f7.keep (by decide), f8.keep (by decide), f9.keep (by decide)⟩
  ·have d4 := f4 (hdep 4 (by simp))
   have d5 := f5 (hdep 5 (by simp))
   subst d4 d5
   clear hdep
   refine wpOp_step rfl (fun K' hK => ?_)
   go_simp
   have hg := Gr.al v (.cells #[.int .i64 cl, .int .i64 ch, .int .i64 cl', .int .i64 ch'] 37)
   exact hK _ _ ⟨t15, t16, t17, t18, _, _, _, t22, t23, t24, by rfl, gv.tr hg, f0.keep (by decide), f1.keep (by decide), f2.keep (by decide), f3.keep (by decide), f4.keep (by decide), f5.keep (by decide), Fact.lay (⟨_, _, rfl, SRow.new2 v 37 cl ch cl' ch' v.heap.size rfl⟩), f7.keep (by decide), (f8.keep (by decide)).map (fun h => h.up hg), f9.keep (by decide)⟩
  ·obtain ⟨a6, c6, rfl, r6⟩ := f6 (hdep 6 (by simp))
   clear hdep
   refine wpOp_step rfl (fun K' hK => ?_)
   go_simp
   refine (measured_ok [⟨cl, ch⟩, ⟨cl', ch'⟩] HCS.out _ _ v r6).mono ?_
   rintro e v' ⟨rfl, hg⟩
   exact hK _ _ ⟨t15, t16, t17, t18, t19, t20, _, _, t23, t24, by rfl, gv.tr hg, f0.keep (by decide), f1.keep (by decide), f2.keep (by decide), f3.keep (by decide), f4.keep (by decide), f5.keep (by decide), (f6.keep (by decide)).map (fun h => h.up hg), Fact.lay (rfl), (f8.keep (by decide)).map (fun h => h.up hg), f9.keep (by decide)⟩
  ·have d1 := f1 (hdep 1 (by simp))
   have d3 := f3 (hdep 3 (by simp))
   have d7 := f7 (hdep 7 (by simp))
   subst d1 d3 d7
   clear hdep
   refine wpOp_step rfl (fun K' hK => ?_)
   go_simp
   have hg := Gr.al v (.cells #[.int .i64 0, .int .i64 0, .int .i64 0] 28)
   exact hK _ _ ⟨t15, _, t17, _, t19, t20, t21, _, _, t24, by rfl, gv.tr hg, f0.keep (by decide), f1.keep (by decide), f2.keep (by decide), f3.keep (by decide), f4.keep (by decide), f5.keep (by decide), (f6.keep (by decide)).map (fun h => h.up hg), f7.keep (by decide), Fact.lay (⟨_, _, rfl, zeros_row v 28⟩), f9.keep (by decide)⟩
  ·obtain ⟨a8, c8, rfl, r8⟩ := f8 (hdep 8 (by simp))
   clear hdep
   refine wpOp_step rfl (fun K' hK => ?_)
   go_simp
   refine (first_three _ _ v r8).mono ?_
   rintro e v' ⟨rfl, hg⟩
   exact hK _ _ ⟨t15, t16, t17, t18, t19, t20, t21, t22, _, _, by rfl, gv.tr hg, f0.keep (by decide), f1.keep (by decide), f2.keep (by decide), f3.keep (by decide), f4.keep (by decide), f5.keep (by decide), (f6.keep (by decide)).map (fun h => h.up hg), f7.keep (by decide), (f8.keep (by decide)).map (fun h => h.up hg), Fact.lay (rfl)⟩
 case fin1 =>
  rintro listed a v hls hall ⟨t15, t16, t17, t18, t19, t20, t21, t22, t23, t24, rfl, gv, f0, f1, f2, f3, f4, f5, f6, f7, f8, f9⟩
  have d9 := f9.now hall hls (by omega)
  subst d9
  clear f0 f1 f2 f3 f4 f5 f6 f7 f8 f9 hall hls
  show wpList _ _ _ (List.drop 10 _) _ _
  simp only [List.drop_succ_cons, List.drop_zero]
  go_upto_region 4 with fail
  have hB := hB.keep gv
  have hB' := hB'.keep gv
  have hC := hC.keep gv
  have hC' := hC'.keep gv
  have gg := gg.tr gv
  clear gv
  refine (show (∀ s : Nat → Value, Code.wp Try.prog _ _ ⟨#[s 0, s 1, s 2, s 3, .pointer (some ⟨w.heap.size, 0, none⟩), .pointer (some ⟨(w.heap.size + 1), 0, none⟩), .pointer (some ⟨(w.heap.size + 1 + 1), 0, none⟩), .pointer (some ⟨(w.heap.size + 1 + 1 + 1), 0, none⟩), .slice none 0 0, .int .i64 0, s 10, undef, undef, undef, undef, s 15, s 16, s 17, s 18, s 19, s 20, s 21, s 22, s 23, s 24, s 25, s 26, undef, undef, undef, undef, undef, undef, undef, undef, undef, undef, undef, undef, undef, undef, undef, undef, undef, undef, undef, undef, undef, undef, undef, undef], []⟩ _) → _ from fun h => h ((fun l : List Value => fun i => l.getD i undef) [_, _, _, _, undef, undef, undef, undef, undef, undef, _, undef, undef, undef, undef, _, _, _, _, _, _, _, _, _, _, _, _])) ?_
  intro s
  dsimp only
  refine wp_region_inv' 6 [(1, 0), (3, 2)] (fun a0 listed a v' => ∃ (t28 t29 t30 t31 t11 t12 : Value) (Bs : List Nat), a = ⟨#[s 0, s 1, s 2, s 3, .pointer (some ⟨w.heap.size, 0, none⟩), .pointer (some ⟨(w.heap.size + 1), 0, none⟩), .pointer (some ⟨(w.heap.size + 1 + 1), 0, none⟩), .pointer (some ⟨(w.heap.size + 1 + 1 + 1), 0, none⟩), .slice none 0 0, .int .i64 0, s 10, t11, t12, undef, undef, s 15, s 16, s 17, s 18, s 19, s 20, s 21, s 22, s 23, s 24, s 25, s 26, undef, t28, t29, t30, t31, undef, undef, undef, undef, undef, undef, undef, undef, undef, undef, undef, undef, undef, undef, undef, undef, undef, undef, undef], []⟩ ∧ Sep v v' [] Bs ∧ Fact listed 0 (t28 = .agg #[.int .i64 tab, .slice pa pan.length pc, .int .i64 hei, .slice ta top.length tc, .slice ba bot.length bc, .int .i64 slo, .bool opn]) ∧ Fact listed 1 (t29 = .agg #[.int .i64 tab, .slice pa pan.length pc, .int .i64 hei, .slice ta top.length tc, .slice ba bot.length bc, .int .i64 slo, .bool opn, .int .i64 0, .slice ta top.length tc, .slice ba bot.length bc]) ∧ Fact listed 2 (t30 = .agg #[.int .i64 tab', .slice pa' pan'.length pc', .int .i64 hei', .slice ta' top'.length tc', .slice ba' bot'.length bc', .int .i64 slo', .bool opn']) ∧ Fact listed 3 (t31 = .agg #[.int .i64 tab', .slice pa' pan'.length pc', .int .i64 hei', .slice ta' top'.length tc', .slice ba' bot'.length bc', .int .i64 slo', .bool opn', .int .i64 0, .slice ta' top'.length tc', .slice ba' bot'.length bc']) ∧ Fact listed 4 (CPtr [.int .i64 0, .slice none 0 0, .int .i64 0, .slice none 0 0, .slice none 0 0, .int .i64 0, .bool false, .int .i64 0, .slice none 0 0, .slice none 0 0] 124 v' Bs t11) ∧ Fact listed 5 (CPtr [.int .i64 0, .slice none 0 0, .int .i64 0, .slice none 0 0, .slice none 0 0, .int .i64 0, .bool false, .int .i64 0, .slice none 0 0, .slice none 0 0] 124 v' Bs t12) ∧ Fact listed 4 (Fact listed 5 (t11 ≠ t12))) (by kernel_rfl) (by kernel_rfl) (by kernel_rfl) ?init4 ?step4 ?fin4
  case init4 => exact ⟨undef, undef, undef, undef, undef, undef, [], by rfl, ⟨Gr.dr v, by simp, by simp⟩, Fact.no _ _ _, Fact.no _ _ _, Fact.no _ _ _, Fact.no _ _ _, Fact.no _ _ _, Fact.no _ _ _, Fact.no _ _ _⟩
  case step4 =>
   rintro i hi listed a v' hun hdep ⟨t28, t29, t30, t31, t11, t12, Bs, rfl, hsep, f0, f1, f2, f3, f4, f5, f6⟩
   have hi8 : i = 0 ∨ i = 1 ∨ i = 2 ∨ i = 3 ∨ i = 4 ∨ i = 5 := by omega
   rcases hi8 with rfl | rfl | rfl | rfl | rfl | rfl
   ·clear hdep
    refine wpOp_step rfl (fun K' hK => ?_)
    rw [if_pos (by rfl)]
    refine wp_load_mid 24 _ rfl w.heap.size 0 (by rfl) [.int .i64 tab, .slice pa pan.length pc, .int .i64 hei, .slice ta top.length tc, .slice ba bot.length bc, .int .i64 slo, .bool opn] _ (fun j u hu => by rw [Nat.zero_add]; exact (hB.keep hsep.gr).2 j u hu) Try.underlying24 rfl (by kernel_rfl) ?_
    exact hK _ _ ⟨_, t29, t30, t31, t11, t12, Bs, by rfl, hsep, Fact.lay rfl, f1.keep (by decide), f2.keep (by decide), f3.keep (by decide), f4.keep (by decide), f5.keep (by decide), (f6.keep (by decide)).map (fun h => h.keep (by decide))⟩
   ·have d0 := f0 (hdep 0 (by simp))
    subst d0
    clear hdep
    refine wpOp_step rfl (fun K' hK => ?_)
    go_simp
    refine (layS_any _ _ _ _ _ _ _ _ _ _ _ _ _ _ v').mono ?_
    rintro e v2 ⟨rfl, hg⟩
    have s1 := hsep.call hg [] (by simp)
    exact hK _ _ ⟨_, _, t30, t31, t11, t12, Bs, by rfl, s1, f0.keep (by decide), Fact.lay rfl, f2.keep (by decide), f3.keep (by decide), (f4.keep (by decide)).map (fun h => h.up hg (mem_same _)), (f5.keep (by decide)).map (fun h => h.up hg (mem_same _)), (f6.keep (by decide)).map (fun h => h.keep (by decide))⟩
   ·clear hdep
    refine wpOp_step rfl (fun K' hK => ?_)
    rw [if_pos (by rfl)]
    refine wp_load_mid 24 _ rfl (w.heap.size + 1) 0 (by rfl) [.int .i64 tab', .slice pa' pan'.length pc', .int .i64 hei', .slice ta' top'.length tc', .slice ba' bot'.length bc', .int .i64 slo', .bool opn'] _ (fun j u hu => by rw [Nat.zero_add]; exact (hB'.keep hsep.gr).2 j u hu) Try.underlying24 rfl (by kernel_rfl) ?_
    exact hK _ _ ⟨t28, t29, _, t31, t11, t12, Bs, by rfl, hsep, f0.keep (by decide), f1.keep (by decide), Fact.lay rfl, f3.keep (by decide), f4.keep (by decide), f5.keep (by decide), (f6.keep (by decide)).map (fun h => h.keep (by decide))⟩
   ·have d2 := f2 (hdep 2 (by simp))
    subst d2
    clear hdep
    refine wpOp_step rfl (fun K' hK => ?_)
    go_simp
    refine (layS_any _ _ _ _ _ _ _ _ _ _ _ _ _ _ v').mono ?_
    rintro e v2 ⟨rfl, hg⟩
    have s1 := hsep.call hg [] (by simp)
    exact hK _ _ ⟨t28, t29, _, _, t11, t12, Bs, by rfl, s1, f0.keep (by decide), f1.keep (by decide), f2.keep (by decide), Fact.lay rfl, (f4.keep (by decide)).map (fun h => h.up hg (mem_same _)), (f5.keep (by decide)).map (fun h => h.up hg (mem_same _)), (f6.keep (by decide)).map (fun h => h.keep (by decide))⟩
   ·clear hdep
    refine wpOp_step rfl (fun K' hK => ?_)
    go_simp
    have hg := Gr.al v' (.cells (List.toArray [.int .i64 0, .slice none 0 0, .int .i64 0, .slice none 0 0, .slice none 0 0, .int .i64 0, .bool false, .int .i64 0, .slice none 0 0, .slice none 0 0]) 124)
    have s1 := hsep.al (.cells (List.toArray [.int .i64 0, .slice none 0 0, .int .i64 0, .slice none 0 0, .slice none 0 0, .int .i64 0, .bool false, .int .i64 0, .slice none 0 0, .slice none 0 0]) 124)
    exact hK _ _ ⟨t28, t29, t30, t31, _, t12, _, by rfl, s1, f0.keep (by decide), f1.keep (by decide), f2.keep (by decide), f3.keep (by decide), Fact.lay (CPtr.new v' [.int .i64 0, .slice none 0 0, .int .i64 0, .slice none 0 0, .slice none 0 0, .int .i64 0, .bool false, .int .i64 0, .slice none 0 0, .slice none 0 0] 124 Bs), (f5.keep (by decide)).map (fun h => h.up hg (mem_con _ _)), Fact.lay (fun e5 => by obtain ⟨B, eB, hB0, _⟩ := f5 (by rwa [getD_set_ne false (by decide)] at e5); rw [eB]; intro e; have hlt_ := (hsep.bs B hB0).2; cases e; exact Nat.lt_irrefl _ hlt_)⟩
   ·clear hdep
    refine wpOp_step rfl (fun K' hK => ?_)
    go_simp
    have hg := Gr.al v' (.cells (List.toArray [.int .i64 0, .slice none 0 0, .int .i64 0, .slice none 0 0, .slice none 0 0, .int .i64 0, .bool false, .int .i64 0, .slice none 0 0, .slice none 0 0]) 124)
    have s1 := hsep.al (.cells (List.toArray [.int .i64 0, .slice none 0 0, .int .i64 0, .slice none 0 0, .slice none 0 0, .int .i64 0, .bool false, .int .i64 0, .slice none 0 0, .slice none 0 0]) 124)
    exact hK _ _ ⟨t28, t29, t30, t31, t11, _, _, by rfl, s1, f0.keep (by decide), f1.keep (by decide), f2.keep (by decide), f3.keep (by decide), (f4.keep (by decide)).map (fun h => h.up hg (mem_con _ _)), Fact.lay (CPtr.new v' [.int .i64 0, .slice none 0 0, .int .i64 0, .slice none 0 0, .slice none 0 0, .int .i64 0, .bool false, .int .i64 0, .slice none 0 0, .slice none 0 0] 124 Bs), fun e4 => Fact.lay (by obtain ⟨B, eB, hB0, _⟩ := f4 (by rwa [getD_set_ne false (by decide)] at e4); rw [eB]; intro e; have hlt_ := (hsep.bs B hB0).2; cases e; exact Nat.lt_irrefl _ hlt_)⟩
  case fin4 =>
   rintro listed a v' hls hall ⟨t28, t29, t30, t31, t11, t12, Bs, rfl, hsep, f0, f1, f2, f3, f4, f5, f6⟩
   have d1 := f1.now hall hls (by omega)
   have d3 := f3.now hall hls (by omega)
   have d0 := f0.now hall hls (by omega)
   have d2 := f2.now hall hls (by omega)
   obtain ⟨D1, rfl, k1, z1⟩ := f4.now hall hls (by omega)
   obtain ⟨D2, rfl, k2, z2⟩ := f5.now hall hls (by omega)
   have n12 : D1 ≠ D2 := fun e => ((f6.now hall hls (by omega)).now hall hls (by omega)) (by rw [e])
   have n21 := n12.symm
   subst d0 d1 d2 d3
   have o1 := z1.own
   have o2 := z2.own
   have l1 : v.heap.size ≤ D1 := (hsep.bs D1 k1).1
   have l2 : v.heap.size ≤ D2 := (hsep.bs D2 k2).1
   have gv := hsep.gr
   clear f0 f1 f2 f3 f4 f5 f6 z1 z2 hall hls hsep k1 k2
   obtain ⟨u0, u1, u2, u3, u4, u5, u6, u7, u8, u9⟩ := o1.1.c10
   obtain ⟨v0, v1, v2, v3, v4, v5, v6, v7, v8, v9⟩ := o2.1.c10
   have y0 := o1.2 0
   have y1 := o1.2 1
   have y2 := o1.2 2
   have y3 := o1.2 3
   have y4 := o1.2 4
   have y5 := o1.2 5
   have y6 := o1.2 6
   have y7 := o1.2 7
   have y8 := o1.2 8
   have y9 := o1.2 9
   have q0 := o2.2 0
   have q1 := o2.2 1
   have q2 := o2.2 2
   have q3 := o2.2 3
   have q4 := o2.2 4
   have q5 := o2.2 5
   have q6 := o2.2 6
   have q7 := o2.2 7
   have q8 := o2.2 8
   have q9 := o2.2 9
   show wpList _ _ _ (List.drop 6 _) _ _
   simp only [List.drop_succ_cons, List.drop_zero]
   go_upto_region 5 with fail
   clear u0 v0 y0 q0 u1 v1 y1 q1 u2 v2 y2 q2 u3 v3 y3 q3 u4 v4 y4 q4 u5 v5 y5 q5 u6 v6 y6 q6 u7 v7 y7 q7 u8 v8 y8 q8 u9 v9 y9 q9
   refine wp_abs (fun U => Gr v U ∧ Box U D1 [.int .i64 tab, .slice pa pan.length pc, .int .i64 hei, .slice ta top.length tc, .slice ba bot.length bc, .int .i64 slo, .bool opn, .int .i64 0, .slice ta top.length tc, .slice ba bot.length bc] ∧ Box U D2 [.int .i64 tab', .slice pa' pan'.length pc', .int .i64 hei', .slice ta' top'.length tc', .slice ba' bot'.length bc', .int .i64 slo', .bool opn', .int .i64 0, .slice ta' top'.length tc', .slice ba' bot'.length bc']) ⟨((((((((((((((((((((gv.setCell (show v.heap.size ≤ D1 from l1) _).setCell (show v.heap.size ≤ D1 from l1) _).setCell (show v.heap.size ≤ D1 from l1) _).setCell (show v.heap.size ≤ D1 from l1) _).setCell (show v.heap.size ≤ D1 from l1) _).setCell (show v.heap.size ≤ D1 from l1) _).setCell (show v.heap.size ≤ D1 from l1) _).setCell (show v.heap.size ≤ D1 from l1) _).setCell (show v.heap.size ≤ D1 from l1) _).setCell (show v.heap.size ≤ D1 from l1) _).setCell (show v.heap.size ≤ D2 from l2) _).setCell (show v.heap.size ≤ D2 from l2) _).setCell (show v.heap.size ≤ D2 from l2) _).setCell (show v.heap.size ≤ D2 from l2) _).setCell (show v.heap.size ≤ D2 from l2) _).setCell (show v.heap.size ≤ D2 from l2) _).setCell (show v.heap.size ≤ D2 from l2) _).setCell (show v.heap.size ≤ D2 from l2) _).setCell (show v.heap.size ≤ D2 from l2) _).setCell (show v.heap.size ≤ D2 from l2) _), ((((((((((((((((((((o1.set (i := 0) (by simp)).set (i := 1) (by simp)).set (i := 2) (by simp)).set (i := 3) (by simp)).set (i := 4) (by simp)).set (i := 5) (by simp)).set (i := 6) (by simp)).set (i := 7) (by simp)).set (i := 8) (by simp)).set (i := 9) (by simp)).other n12).other n12).other n12).other n12).other n12).other n12).other n12).other n12).other n12).other n12).1, ((((((((((((((((((((o2.other n21).other n21).other n21).other n21).other n21).other n21).other n21).other n21).other n21).other n21).set (i := 0) (by simp)).set (i := 1) (by simp)).set (i := 2) (by simp)).set (i := 3) (by simp)).set (i := 4) (by simp)).set (i := 5) (by simp)).set (i := 6) (by simp)).set (i := 7) (by simp)).set (i := 8) (by simp)).set (i := 9) (by simp)).1⟩ ?_
   clear gv o1 o2 n12 n21 l1 l2
   rintro U ⟨gU, bX, bX'⟩
   have gg := gg.tr gU
   have hC := hC.keep gU
   have hC' := hC'.keep gU
   clear hB hB' gU
   obtain ⟨i0, hi, hz0, hz1, hz2⟩ := info_parts infoSpan
   obtain ⟨w8, hmk, hown, hgrow⟩ := run_make_own (P := Try.prog) U U.heap.size 38 37 i0 (.agg #[.int .i64 0, .int .i64 0]) 2 Try.underlying38 hi hz0 hz1 .i64 .i64 4 (by rw [hz2]; omega) (by unfold maxLen; omega) (Nat.le_refl _)
   have hgU : Gr U w8 := (Below.refl _ U).grown hgrow (Nat.le_refl _) (fun b hb' => by cases hb')
   rw [show ((4 : Nat) : Int) = 4 from rfl] at hmk
   go_wp2
   clear hgrow hmk
   refine (show (∀ s : Nat → Value, Code.wp Try.prog _ _ ⟨#[s 0, s 1, s 2, s 3, .pointer (some ⟨w.heap.size, 0, none⟩), .pointer (some ⟨(w.heap.size + 1), 0, none⟩), .pointer (some ⟨(w.heap.size + 1 + 1), 0, none⟩), .pointer (some ⟨(w.heap.size + 1 + 1 + 1), 0, none⟩), .slice none 0 0, .int .i64 0, s 10, .pointer (some ⟨D1, 0, none⟩), .pointer (some ⟨D2, 0, none⟩), _, undef, s 15, s 16, s 17, s 18, s 19, s 20, s 21, s 22, s 23, s 24, s 25, s 26, s 27, s 28, s 29, s 30, s 31, s 32, _, undef, undef, undef, undef, undef, undef, undef, undef, undef, undef, undef, undef, undef, undef, undef, undef, undef], []⟩ _) → _ from fun h => h ((fun l : List Value => fun i => l.getD i undef) [_, _, _, _, undef, undef, undef, undef, undef, undef, _, undef, undef, undef, undef, _, _, _, _, _, _, _, _, _, _, _, _, _, _, _, _, _, _])) ?_
   intro s
   dsimp only
   go_loopw [33, 13] (fun i v wr => Hid (∃ (k : Nat) (vv : Value), k ≤ 4 ∧ i = .int .i64 k ∧ v = vv ∧ Gr U wr ∧ wr.ownsRow U.heap.size 37 2 vv k ((playL hei pan top bot opn cl ch hei' pan' top' bot' opn' cl' ch' k).flatMap encS))) (fun i v wr => 4 - (intOf i).toNat)
   case atStart => exact Lib.hid ⟨0, _, Nat.zero_le _, rfl, rfl, hgU, hown⟩
   case round =>
    clear hown hgU
    obtain ⟨k, vv, hk, rfl, hvv, gV, hown⟩ := hrel.out
    obtain rfl := hvv.symm
    clear hrel
    by_cases hlt : k < 4
    ·have g9 := gg.tr gV
     have k9 : k < 9 := by omega
     obtain ⟨cb0, cb1, cb2, cb3⟩ := HCB.out
     obtain ⟨cb0', cb1', cb2', cb3'⟩ := HCB'.out
     have hk1 : k + 1 ≤ maxLen := by unfold maxLen; omega
     have hk2 : (k + 1) * 16 ≤ 140737488355328 := by omega
     go_upto_region 9 with fail
     have bX1 := bX.keep gV
     have bX1' := bX'.keep gV
     have bC1 := hC.keep gV
     have bC1' := hC'.keep gV
     refine wp_region_inv' 12 [(4, 1), (4, 2), (4, 3), (7, 5), (7, 6), (9, 7), (9, 8), (10, 4), (10, 9), (11, 10)] (fun a0 listed a v => ∃ (r : Nat → Value) (t36 t37 t38 t39 t40 t41 t42 t43 t44 t45 t46 t47 : Value), a = ⟨#[s 0, s 1, s 2, s 3, .pointer (some ⟨w.heap.size, 0, none⟩), .pointer (some ⟨(w.heap.size + 1), 0, none⟩), .pointer (some ⟨(w.heap.size + 1 + 1), 0, none⟩), .pointer (some ⟨(w.heap.size + 1 + 1 + 1), 0, none⟩), .slice none 0 0, .int .i64 0, s 10, .pointer (some ⟨D1, 0, none⟩), .pointer (some ⟨D2, 0, none⟩), vv, .int .i64 k, s 15, s 16, s 17, s 18, s 19, s 20, s 21, s 22, s 23, s 24, s 25, s 26, s 27, s 28, s 29, s 30, s 31, s 32, .int .i64 k, r 34, r 35, t36, t37, t38, t39, t40, t41, t42, t43, t44, t45, t46, t47, r 48, r 49, undef], []⟩ ∧ Gr wr v ∧ Fact listed 0 (t36 = vv) ∧ Fact listed 1 (t37 = .agg #[.int .i64 tab, .slice pa pan.length pc, .int .i64 hei, .slice ta top.length tc, .slice ba bot.length bc, .int .i64 slo, .bool opn, .int .i64 0, .slice ta top.length tc, .slice ba bot.length bc]) ∧ Fact listed 2 (t38 = .int .i64 k) ∧ Fact listed 3 (t39 = .agg #[.int .i64 cl, .int .i64 ch]) ∧ Fact listed 4 (t40 = .agg #[.int .i64 (innerAt 0 hei pan top bot opn cl ch k).lo, .int .i64 (innerAt 0 hei pan top bot opn cl ch k).hi]) ∧ Fact listed 5 (t41 = .agg #[.int .i64 tab', .slice pa' pan'.length pc', .int .i64 hei', .slice ta' top'.length tc', .slice ba' bot'.length bc', .int .i64 slo', .bool opn', .int .i64 0, .slice ta' top'.length tc', .slice ba' bot'.length bc']) ∧ Fact listed 6 (t42 = .int .i64 k) ∧ Fact listed 7 (t43 = .agg #[.int .i64 (flatAt 0 hei' pan' top' bot' opn' k).lo, .int .i64 (flatAt 0 hei' pan' top' bot' opn' k).hi]) ∧ Fact listed 8 (t44 = .agg #[.int .i64 cl', .int .i64 ch']) ∧ Fact listed 9 (CSp [flatAt 0 hei' pan' top' bot' opn' k, ⟨cl', ch'⟩] v t45) ∧ Fact listed 10 (t46 = .agg #[.int .i64 (playAt hei pan top bot opn cl ch hei' pan' top' bot' opn' cl' ch' k).lo, .int .i64 (playAt hei pan top bot opn cl ch hei' pan' top' bot' opn' cl' ch' k).hi]) ∧ Fact listed 11 (COne (playAt hei pan top bot opn cl ch hei' pan' top' bot' opn' cl' ch' k).lo (playAt hei pan top bot opn cl ch hei' pan' top' bot' opn' cl' ch' k).hi v t47)) (by kernel_rfl) (by kernel_rfl) (by kernel_rfl) ?init9 ?step9 ?fin9
     case init9 => exact ⟨(fun l : List Value => fun i => l.getD i undef) [undef, undef, undef, undef, undef, undef, undef, undef, undef, undef, undef, undef, undef, undef, undef, undef, undef, undef, undef, undef, undef, undef, undef, undef, undef, undef, undef, undef, undef, undef, undef, undef, undef, undef, _, _, undef, undef, undef, undef, undef, undef, undef, undef, undef, undef, undef, undef, _, _], _, _, _, _, _, _, _, _, _, _, _, _, by rfl, Gr.dr wr, Fact.no _ _ _, Fact.no _ _ _, Fact.no _ _ _, Fact.no _ _ _, Fact.no _ _ _, Fact.no _ _ _, Fact.no _ _ _, Fact.no _ _ _, Fact.no _ _ _, Fact.no _ _ _, Fact.no _ _ _, Fact.no _ _ _⟩
     case step9 =>
      rintro i hi listed a v hun hdep ⟨r, t36, t37, t38, t39, t40, t41, t42, t43, t44, t45, t46, t47, rfl, gv, f0, f1, f2, f3, f4, f5, f6, f7, f8, f9, f10, f11⟩
      have hi8 : i = 0 ∨ i = 1 ∨ i = 2 ∨ i = 3 ∨ i = 4 ∨ i = 5 ∨ i = 6 ∨ i = 7 ∨ i = 8 ∨ i = 9 ∨ i = 10 ∨ i = 11 := by omega
      rcases hi8 with rfl | rfl | rfl | rfl | rfl | rfl | rfl | rfl | rfl | rfl | rfl | rfl
      ·clear hdep
       refine wpOp_step rfl (fun K' hK => ?_)
       go_simp
       exact hK _ _ ⟨r, _, t37, t38, t39, t40, t41, t42, t43, t44, t45, t46, t47, by rfl, gv, Fact.lay (rfl), f1.keep (by decide), f2.keep (by decide), f3.keep (by decide), f4.keep (by decide), f5.keep (by decide), f6.keep (by decide), f7.keep (by decide), f8.keep (by decide), f9.keep (by decide), f10.keep (by decide), f11.keep (by decide)⟩
      ·clear hdep
       refine wpOp_step rfl (fun K' hK => ?_)
       rw [if_pos (by rfl)]
       refine wp_load_mid 124 _ rfl D1 0 (by rfl) [.int .i64 tab, .slice pa pan.length pc, .int .i64 hei, .slice ta top.length tc, .slice ba bot.length bc, .int .i64 slo, .bool opn, .int .i64 0, .slice ta top.length tc, .slice ba bot.length bc] _ (fun j u hu => by rw [Nat.zero_add]; exact (bX1.keep gv).2 j u hu) Try.underlying124 rfl (by kernel_rfl) ?_
       exact hK _ _ ⟨r, t36, _, t38, t39, t40, t41, t42, t43, t44, t45, t46, t47, by rfl, gv, f0.keep (by decide), Fact.lay (rfl), f2.keep (by decide), f3.keep (by decide), f4.keep (by decide), f5.keep (by decide), f6.keep (by decide), f7.keep (by decide), f8.keep (by decide), f9.keep (by decide), f10.keep (by decide), f11.keep (by decide)⟩
      ·clear hdep
       refine wpOp_step rfl (fun K' hK => ?_)
       go_simp
       exact hK _ _ ⟨r, t36, t37, _, t39, t40, t41, t42, t43, t44, t45, t46, t47, by rfl, gv, f0.keep (by decide), f1.keep (by decide), Fact.lay (rfl), f3.keep (by decide), f4.keep (by decide), f5.keep (by decide), f6.keep (by decide), f7.keep (by decide), f8.keep (by decide), f9.keep (by decide), f10.keep (by decide), f11.keep (by decide)⟩
      ·clear hdep
       refine wpOp_step rfl (fun K' hK => ?_)
       rw [if_pos (by rfl)]
       refine wp_load_mid 37 _ rfl (w.heap.size + 1 + 1) 0 (by rfl) [.int .i64 cl, .int .i64 ch] _ (fun j u hu => by rw [Nat.zero_add]; exact (bC1.keep gv).2 j u hu) Try.underlying37 rfl (by kernel_rfl) ?_
       exact hK _ _ ⟨r, t36, t37, t38, _, t40, t41, t42, t43, t44, t45, t46, t47, by rfl, gv, f0.keep (by decide), f1.keep (by decide), f2.keep (by decide), Fact.lay (rfl), f4.keep (by decide), f5.keep (by decide), f6.keep (by decide), f7.keep (by decide), f8.keep (by decide), f9.keep (by decide), f10.keep (by decide), f11.keep (by decide)⟩
      ·have d1 := f1 (hdep 1 (by simp))
       have d2 := f2 (hdep 2 (by simp))
       have d3 := f3 (hdep 3 (by simp))
       subst d1 d2 d3
       clear hdep
       refine wpOp_step rfl (fun K' hK => ?_)
       go_simp
       refine (inside_all _ _ _ 0 _ _ _ _ _ _ _ _ _ _ cl ch HG.out (by omega) (by omega) cb0 cb1 cb2 cb3 k k9 v (hp.grow (g9.tr gv)) (ht.grow (g9.tr gv)) (hb.grow (g9.tr gv))).mono ?_
       rintro e v' ⟨rfl, hg⟩
       exact hK _ _ ⟨r, t36, _, _, _, _, t41, t42, t43, t44, t45, t46, t47, by rfl, gv.tr hg, f0.keep (by decide), f1.keep (by decide), f2.keep (by decide), f3.keep (by decide), Fact.lay (rfl), f5.keep (by decide), f6.keep (by decide), f7.keep (by decide), f8.keep (by decide), (f9.keep (by decide)).map (fun h => h.up hg), f10.keep (by decide), (f11.keep (by decide)).map (fun h => h.up hg)⟩
      ·clear hdep
       refine wpOp_step rfl (fun K' hK => ?_)
       rw [if_pos (by rfl)]
       refine wp_load_mid 124 _ rfl D2 0 (by rfl) [.int .i64 tab', .slice pa' pan'.length pc', .int .i64 hei', .slice ta' top'.length tc', .slice ba' bot'.length bc', .int .i64 slo', .bool opn', .int .i64 0, .slice ta' top'.length tc', .slice ba' bot'.length bc'] _ (fun j u hu => by rw [Nat.zero_add]; exact (bX1'.keep gv).2 j u hu) Try.underlying124 rfl (by kernel_rfl) ?_
       exact hK _ _ ⟨r, t36, t37, t38, t39, t40, _, t42, t43, t44, t45, t46, t47, by rfl, gv, f0.keep (by decide), f1.keep (by decide), f2.keep (by decide), f3.keep (by decide), f4.keep (by decide), Fact.lay (rfl), f6.keep (by decide), f7.keep (by decide), f8.keep (by decide), f9.keep (by decide), f10.keep (by decide), f11.keep (by decide)⟩
      ·clear hdep
       refine wpOp_step rfl (fun K' hK => ?_)
       go_simp
       exact hK _ _ ⟨r, t36, t37, t38, t39, t40, t41, _, t43, t44, t45, t46, t47, by rfl, gv, f0.keep (by decide), f1.keep (by decide), f2.keep (by decide), f3.keep (by decide), f4.keep (by decide), f5.keep (by decide), Fact.lay (rfl), f7.keep (by decide), f8.keep (by decide), f9.keep (by decide), f10.keep (by decide), f11.keep (by decide)⟩
      ·have d5 := f5 (hdep 5 (by simp))
       have d6 := f6 (hdep 6 (by simp))
       subst d5 d6
       clear hdep
       refine wpOp_step rfl (fun K' hK => ?_)
       go_simp
       refine (flat_all _ _ _ 0 _ _ _ _ _ _ _ _ _ _ HG'.out (by omega) (by omega) k k9 v (hp'.grow (g9.tr gv)) (ht'.grow (g9.tr gv)) (hb'.grow (g9.tr gv))).mono ?_
       rintro e v' ⟨rfl, hg⟩
       exact hK _ _ ⟨r, t36, t37, t38, t39, t40, _, _, _, t44, t45, t46, t47, by rfl, gv.tr hg, f0.keep (by decide), f1.keep (by decide), f2.keep (by decide), f3.keep (by decide), f4.keep (by decide), f5.keep (by decide), f6.keep (by decide), Fact.lay (rfl), f8.keep (by decide), (f9.keep (by decide)).map (fun h => h.up hg), f10.keep (by decide), (f11.keep (by decide)).map (fun h => h.up hg)⟩
      ·clear hdep
       refine wpOp_step rfl (fun K' hK => ?_)
       rw [if_pos (by rfl)]
       refine wp_load_mid 37 _ rfl (w.heap.size + 1 + 1 + 1) 0 (by rfl) [.int .i64 cl', .int .i64 ch'] _ (fun j u hu => by rw [Nat.zero_add]; exact (bC1'.keep gv).2 j u hu) Try.underlying37 rfl (by kernel_rfl) ?_
       exact hK _ _ ⟨r, t36, t37, t38, t39, t40, t41, t42, t43, _, t45, t46, t47, by rfl, gv, f0.keep (by decide), f1.keep (by decide), f2.keep (by decide), f3.keep (by decide), f4.keep (by decide), f5.keep (by decide), f6.keep (by decide), f7.keep (by decide), Fact.lay (rfl), f9.keep (by decide), f10.keep (by decide), f11.keep (by decide)⟩
      ·have d7 := f7 (hdep 7 (by simp))
       have d8 := f8 (hdep 8 (by simp))
       subst d7 d8
       clear hdep
       refine wpOp_step rfl (fun K' hK => ?_)
       go_simp
       have hg := Gr.al v (.cells #[.int .i64 (flatAt 0 hei' pan' top' bot' opn' k).lo, .int .i64 (flatAt 0 hei' pan' top' bot' opn' k).hi, .int .i64 cl', .int .i64 ch'] 37)
       exact hK _ _ ⟨r, t36, t37, t38, t39, t40, t41, t42, _, _, _, t46, t47, by rfl, gv.tr hg, f0.keep (by decide), f1.keep (by decide), f2.keep (by decide), f3.keep (by decide), f4.keep (by decide), f5.keep (by decide), f6.keep (by decide), f7.keep (by decide), f8.keep (by decide), Fact.lay (⟨_, _, rfl, SRow.new2 v 37 (flatAt 0 hei' pan' top' bot' opn' k).lo (flatAt 0 hei' pan' top' bot' opn' k).hi cl' ch' v.heap.size rfl⟩), f10.keep (by decide), (f11.keep (by decide)).map (fun h => h.up hg)⟩
      ·have d4 := f4 (hdep 4 (by simp))
       obtain ⟨a9, c9, rfl, r9⟩ := f9 (hdep 9 (by simp))
       subst d4
       clear hdep
       refine wpOp_step rfl (fun K' hK => ?_)
       go_simp
       refine (less_any (innerAt 0 hei pan top bot opn cl ch k) [flatAt 0 hei' pan' top' bot' opn' k, ⟨cl', ch'⟩] (by simp) (inner_bd HG.out cb0 cb1 cb2 cb3 k9) (two_bd (flat_bd (off := 0) HG'.out (by omega) (by omega) k9) cb0' cb1' cb2' cb3') _ _ v r9).mono ?_
       rintro e v' ⟨rfl, hg⟩
       exact hK _ _ ⟨r, t36, t37, t38, t39, _, t41, t42, t43, t44, _, _, t47, by rfl, gv.tr hg, f0.keep (by decide), f1.keep (by decide), f2.keep (by decide), f3.keep (by decide), f4.keep (by decide), f5.keep (by decide), f6.keep (by decide), f7.keep (by decide), f8.keep (by decide), (f9.keep (by decide)).map (fun h => h.up hg), Fact.lay (rfl), (f11.keep (by decide)).map (fun h => h.up hg)⟩
      ·have d10 := f10 (hdep 10 (by simp))
       subst d10
       clear hdep
       refine wpOp_step rfl (fun K' hK => ?_)
       go_simp
       have hg := Gr.al v (.cells #[.int .i64 (playAt hei pan top bot opn cl ch hei' pan' top' bot' opn' cl' ch' k).lo, .int .i64 (playAt hei pan top bot opn cl ch hei' pan' top' bot' opn' cl' ch' k).hi] 37)
       exact hK _ _ ⟨r, t36, t37, t38, t39, t40, t41, t42, t43, t44, t45, _, _, by rfl, gv.tr hg, f0.keep (by decide), f1.keep (by decide), f2.keep (by decide), f3.keep (by decide), f4.keep (by decide), f5.keep (by decide), f6.keep (by decide), f7.keep (by decide), f8.keep (by decide), (f9.keep (by decide)).map (fun h => h.up hg), f10.keep (by decide), Fact.lay (⟨_, rfl, by simp, Box.new v [.int .i64 (playAt hei pan top bot opn cl ch hei' pan' top' bot' opn' cl' ch' k).lo, .int .i64 (playAt hei pan top bot opn cl ch hei' pan' top' bot' opn' cl' ch' k).hi] 37 v.heap.size rfl⟩)⟩
     case fin9 =>
      rintro listed a v hls hall ⟨r, t36, t37, t38, t39, t40, t41, t42, t43, t44, t45, t46, t47, rfl, gv, f0, f1, f2, f3, f4, f5, f6, f7, f8, f9, f10, f11⟩
      have d0 := f0.now hall hls (by omega)
      obtain ⟨R1, rfl, hR1, bR⟩ := f11.now hall hls (by omega)
      subst d0
      clear f0 f1 f2 f3 f4 f5 f6 f7 f8 f9 f10 f11 hall hls bX1 bX1' bC1 bC1'
      show wpList _ _ _ (List.drop 12 _) _ _
      simp only [List.drop_succ_cons, List.drop_zero]
      go_wp2_with (at_builtin; refine wpList_append_own _ rfl _ _ 38 rfl U.heap.size 37 i0 (.agg #[.int .i64 0, .int .i64 0]) 2 16 Try.underlying38 hi hz0 hz1 hz2 rfl (by decide) _ _ _ rfl (owns_keep hown gv) ⟨R1, 0, none⟩ 1 1 ([(playAt hei pan top bot opn cl ch hei' pan' top' bot' opn' cl' ch' k).lo, (playAt hei pan top bot opn cl ch hei' pan' top' bot' opn' cl' ch' k).hi].map (fun n => Value.int .i64 n)) rfl rfl bR.news (ints_one _) hk1 hk2 (gV.tr gv).size ?_; intro v' w6 hown' hgrow' _)
      go_roundw
      case rel =>
       have hR : Gr U w6 := (gV.tr gv).grown' (owns_keep hown gv) (Nat.le_refl _) hgrow'
       have hl : w6.ownsRow U.heap.size 37 2 v' (k + 1) ((playL hei pan top bot opn cl ch hei' pan' top' bot' opn' cl' ch' (k + 1)).flatMap encS) := by
        unfold playL
        rw [List.range_succ, List.map_append, List.map_singleton, flat_snoc]
        exact hown'
       first
        | exact Lib.hid ⟨k + 1, _, by omega, by go_num, rfl, hR, hl⟩
        | exact Lib.hid ⟨k + 1, _, by omega, rfl, rfl, hR, hl⟩
      case measure => simp [intOf]; omega
    ·obtain rfl : k = 4 := by omega
     have hlen : (playL hei pan top bot opn cl ch hei' pan' top' bot' opn' cl' ch' 4).length = 4 := by simp [playL]
     obtain ⟨a, cap, hv, hr⟩ := owns_row (enc := encS) (l := playL hei pan top bot opn cl ch hei' pan' top' bot' opn' cl' ch' 4) (fun _ => rfl) (by rw [hlen]; omega) (by rw [hlen]; exact hown)
     subst hv
     have Hr := Lib.hid hr
     clear hr hlen
     go_wp2
     go_ret2
     exact ⟨a, cap, rfl, gg.tr gV, Hr.out⟩

end Go.Proofs.Ytoihnilgmdcndaa

namespace Go.Proofs.Ytoihnilgmdcndaa
set_option linter.unusedVariables false
set_option linter.unusedSimpArgs false
open Go.RowKit

def spP (s : Sp) : Int × Int := (s.lo, s.hi)

theorem sp_ext : ∀ {l m : List Sp}, l.map spP = m.map spP → l = m
  | [], [], _ => rfl
  | [], _ :: _, h => by cases h
  | _ :: _, [], h => by cases h
  | ⟨a, b⟩ :: l, ⟨c, d⟩ :: m, h => by
    simp only [List.map_cons, List.cons.injEq, spP, Prod.mk.injEq] at h
    obtain ⟨⟨rfl, rfl⟩, h2⟩ := h
    rw [sp_ext h2]

def exP : List Int := [304, 204, 304, 204]

def exQ : List Int := [318, 218, 318, 218]

def exF : List Int := [101, 101]

theorem exG : GoodB 35 208 6 exP exF exF false := good_of (by decide +kernel)

theorem exG2 : GoodB 35 208 6 exQ exF exF false := good_of (by decide +kernel)

theorem exWok : exW.ok := Wi.ok_of (by decide +kernel)

def inEx : List Sp := [⟨300000, 301000⟩, ⟨200000, 201000⟩, ⟨300000, 301000⟩, ⟨200000, 201000⟩, ⟨200000, 202000⟩, ⟨-2000, -1000⟩, ⟨98000, 99000⟩, ⟨-2000, -1000⟩, ⟨98000, 99000⟩]

theorem inEx_is : innerL 0 208 exP exF exF false 3000 4000 9 = inEx := sp_ext (by decide +kernel)

theorem ex_inner (a b c : Nat) (w : World) (h1 : IRow w (some ⟨a, 0, none⟩) exP) (h2 : IRow w (some ⟨b, 0, none⟩) exF) (h3 : IRow w (some ⟨c, 0, none⟩) exF) :
    Calls Try.prog 23 #[.agg #[.int .i64 35, .slice (some ⟨a, 0, none⟩) 4 4, .int .i64 208, .slice (some ⟨b, 0, none⟩) 2 2, .slice (some ⟨c, 0, none⟩) 2 2, .int .i64 6, .bool false], .agg #[.int .i64 3000, .int .i64 4000], .int .i64 0] w fun e w' => ∃ ad cap, e = .returned (.tuple #[.slice ad 9 cap, .int .i64 0]) ∧ Gr w w' ∧ SRow w' ad inEx := by
  have h := inner_ok 35 208 6 0 exP exF exF (some ⟨a, 0, none⟩) (some ⟨b, 0, none⟩) (some ⟨c, 0, none⟩) 4 2 2 false 3000 4000 exG (by decide) (by decide) w h1 h2 h3
  rw [inEx_is] at h
  exact h

def badEx : List (Int × Int) := [(0, 2500), (1, 2500), (2, 2500), (3, 2500), (4, 2500)]

theorem badEx_is : badL 2500 4500 (holdL 0 208 6 exP exF exF false 300 301 200 201 200 202 (-3) 0 0 200 false) 10 = badEx := by decide +kernel

theorem ex_close (a b c : Nat) (w : World) (h1 : IRow w (some ⟨a, 0, none⟩) exP) (h2 : IRow w (some ⟨b, 0, none⟩) exF) (h3 : IRow w (some ⟨c, 0, none⟩) exF) :
    Calls Try.prog 42 #[.agg #[.int .i64 35, .slice (some ⟨a, 0, none⟩) 4 4, .int .i64 208, .slice (some ⟨b, 0, none⟩) 2 2, .slice (some ⟨c, 0, none⟩) 2 2, .int .i64 6, .bool false], .agg #[.int .i64 300, .int .i64 301, .int .i64 200, .int .i64 201, .int .i64 200, .int .i64 202, .int .i64 (-3), .int .i64 0, .int .i64 0, .int .i64 200, .bool false], .agg #[.int .i64 2500, .int .i64 4500]] w fun e w' => ∃ ad cap, e = .returned (.tuple #[.slice ad 5 cap, .int .i64 0]) ∧ Gr w w' ∧ BRow w' ad badEx := by
  have h := close_ok 35 208 6 exP exF exF (some ⟨a, 0, none⟩) (some ⟨b, 0, none⟩) (some ⟨c, 0, none⟩) 4 2 2 false 300 301 200 201 200 202 (-3) 0 0 200 false 2500 4500 exG exWok (by decide) w h1 h2 h3
  rw [badEx_is] at h
  exact h

theorem ex_cal (a b c : Nat) (w : World) (h1 : IRow w (some ⟨a, 0, none⟩) exP) (h2 : IRow w (some ⟨b, 0, none⟩) exF) (h3 : IRow w (some ⟨c, 0, none⟩) exF) :
    Calls Try.prog 43 #[.agg #[.int .i64 35, .slice (some ⟨a, 0, none⟩) 4 4, .int .i64 208, .slice (some ⟨b, 0, none⟩) 2 2, .slice (some ⟨c, 0, none⟩) 2 2, .int .i64 6, .bool false], .agg #[.int .i64 300, .int .i64 301, .int .i64 200, .int .i64 201, .int .i64 200, .int .i64 202, .int .i64 (-3), .int .i64 0, .int .i64 0, .int .i64 200, .bool false]] w fun e w' => e = .returned (.tuple #[.agg #[.int .i64 3000, .int .i64 4000], .int .i64 0]) ∧ Gr w w' := by
  have h := calipers_any 35 208 6 exP exF exF (some ⟨a, 0, none⟩) (some ⟨b, 0, none⟩) (some ⟨c, 0, none⟩) 4 2 2 false exW w h1 h2 h3
  refine h.mono ?_
  rintro e w' ⟨hg, (⟨h0, _⟩ | ⟨_, h0, _⟩ | ⟨_, _, h0⟩)⟩
  · exact absurd (show firstE [checkE 35 208 6 exP exF exF false, exW.err] = 0 by decide +kernel) h0
  · exact absurd h0 (by decide +kernel)
  · have e1 : (calTo (holdL 0 208 6 exP exF exF false exW.ll exW.lh exW.wl exW.wh exW.hl exW.hh exW.ol exW.oh exW.il exW.ih exW.wo) 10).lo = 3000 := by decide +kernel
    have e2 : (calTo (holdL 0 208 6 exP exF exF false exW.ll exW.lh exW.wl exW.wh exW.hl exW.hh exW.ol exW.oh exW.il exW.ih exW.wo) 10).hi = 4000 := by decide +kernel
    rw [e1, e2] at h0
    exact ⟨h0, hg⟩

theorem smEx2 : (smallD (wholeR false) exW 3000 4000).2 = 10 := by decide +kernel

theorem smExp : (smallD (wholeR false) exW 3000 4000).1.p = [304, 204, 304, 204] := by decide +kernel

theorem smExt : (smallD (wholeR false) exW 3000 4000).1.t = [101, 51] := by decide +kernel

theorem smExb : (smallD (wholeR false) exW 3000 4000).1.b = [101, 51] := by decide +kernel

theorem smExh : (smallD (wholeR false) exW 3000 4000).1.hei = 208 := by decide +kernel

theorem smExs : (smallD (wholeR false) exW 3000 4000).1.slo = 4 := by decide +kernel

theorem ex_blank (w : World) :
    Calls Try.prog 29 #[.agg #[.int .i64 300, .int .i64 301, .int .i64 200, .int .i64 201, .int .i64 200, .int .i64 202, .int .i64 (-3), .int .i64 0, .int .i64 0, .int .i64 200, .bool false], .agg #[.int .i64 3000, .int .i64 4000], .int .i64 35] w fun e w' => ∃ P T B, e = .returned (.tuple #[.agg #[.int .i64 35, .slice (some ⟨P, 0, none⟩) 4 4, .int .i64 208, .slice (some ⟨T, 0, none⟩) 2 2, .slice (some ⟨B, 0, none⟩) 2 2, .int .i64 4, .bool false], .int .i64 0, .int .i64 0]) ∧ Gr w w' ∧
      IRow w' (some ⟨P, 0, none⟩) [304, 204, 304, 204] ∧ IRow w' (some ⟨T, 0, none⟩) [101, 51] ∧ IRow w' (some ⟨B, 0, none⟩) [101, 51] := by
  have hE : firstE [exW.err, measE [⟨3000, 4000⟩]] = 0 := by decide +kernel
  refine (blankF_any exW 3000 4000 35 w).mono ?_
  rintro e w' ⟨hg, (⟨h0, _⟩ | ⟨_, h0, _⟩ | ⟨_, _, h0, _⟩ | ⟨_, _, _, P, T, B, h0, h1, h2, h3⟩)⟩
  · exact absurd hE h0
  · exact absurd h0 (by decide)
  · exact absurd h0 (by show ¬ (smallD (wholeR false) exW 3000 4000).2 < 10; rw [smEx2]; decide)
  · change e = .returned (.tuple #[.agg #[.int .i64 35, .slice (some ⟨P, 0, none⟩) 4 4, .int .i64 (smallD (wholeR false) exW 3000 4000).1.hei, .slice (some ⟨T, 0, none⟩) 2 2, .slice (some ⟨B, 0, none⟩) 2 2, .int .i64 (smallD (wholeR false) exW 3000 4000).1.slo, .bool false], .int .i64 0, .int .i64 0]) at h0
    change IRow w' _ (smallD (wholeR false) exW 3000 4000).1.p at h1
    change IRow w' _ (smallD (wholeR false) exW 3000 4000).1.t at h2
    change IRow w' _ (smallD (wholeR false) exW 3000 4000).1.b at h3
    rw [smExh, smExs] at h0
    rw [smExp] at h1
    rw [smExt] at h2
    rw [smExb] at h3
    exact ⟨P, T, B, h0, hg, h1, h2, h3⟩

theorem ex_size (a b c : Nat) (w : World) (h1 : IRow w (some ⟨a, 0, none⟩) exP) (h2 : IRow w (some ⟨b, 0, none⟩) exF) (h3 : IRow w (some ⟨c, 0, none⟩) exF) :
    Calls Try.prog 18 #[.agg #[.int .i64 35, .slice (some ⟨a, 0, none⟩) 4 4, .int .i64 208, .slice (some ⟨b, 0, none⟩) 2 2, .slice (some ⟨c, 0, none⟩) 2 2, .int .i64 6, .bool false]] w fun e w' => e = .returned (.tuple #[.int .i64 1051, .int .i64 410, .int .i64 430910, .int .i64 0]) ∧ Gr w w' := by
  have h := size_ok 35 208 6 exP exF exF (some ⟨a, 0, none⟩) (some ⟨b, 0, none⟩) (some ⟨c, 0, none⟩) 4 2 2 false exG w h1 h2 h3
  have e1 : acrossL 35 exP = 1051 := by decide +kernel
  have e2 : alongL 208 exF exF = 410 := by decide +kernel
  rw [e1, e2] at h
  exact h

theorem ex_scores (a b c : Nat) (w : World) (h1 : IRow w (some ⟨a, 0, none⟩) exP) (h2 : IRow w (some ⟨b, 0, none⟩) exF) (h3 : IRow w (some ⟨c, 0, none⟩) exF) :
    Calls Try.prog 19 #[.agg #[.int .i64 35, .slice (some ⟨a, 0, none⟩) 4 4, .int .i64 208, .slice (some ⟨b, 0, none⟩) 2 2, .slice (some ⟨c, 0, none⟩) 2 2, .int .i64 6, .bool false]] w fun e w' => ∃ p cp q cq, e = .returned (.tuple #[.slice p 4 cp, .slice q 2 cq, .int .i64 0]) ∧ Gr w w' ∧ IRow w' p [35, 339, 543, 847] ∧ IRow w' q [101, 309] := by
  have h := scores_any 35 208 6 exP exF exF (some ⟨a, 0, none⟩) (some ⟨b, 0, none⟩) (some ⟨c, 0, none⟩) 4 2 2 false w h1 h2 h3
  have e1 : placesTo 35 exP 4 = [35, 339, 543, 847] := by decide +kernel
  have e2 : [maxL exF, maxL exF + 208] = [101, 309] := by decide +kernel
  rw [e1, e2] at h
  refine h.mono ?_
  rintro e w' ⟨hg, (⟨h0, _⟩ | ⟨_, p, cp, q, cq, h0, h1, h2⟩)⟩
  · exact absurd (show checkE 35 208 6 exP exF exF false = 0 by decide +kernel) h0
  · exact ⟨p, cp, q, cq, h0, hg, h1, h2⟩

def playEx : List Sp := [⟨6000, 8000⟩, ⟨6000, 8000⟩, ⟨6000, 8000⟩, ⟨6000, 8000⟩]

theorem playEx_is : playL 208 exQ exF exF false 3000 4000 208 exP exF exF false 3000 4000 4 = playEx := sp_ext (by decide +kernel)

theorem ex_play (a b c a' b' c' : Nat) (w : World) (h1 : IRow w (some ⟨a, 0, none⟩) exQ) (h2 : IRow w (some ⟨b, 0, none⟩) exF) (h3 : IRow w (some ⟨c, 0, none⟩) exF) (h1' : IRow w (some ⟨a', 0, none⟩) exP) (h2' : IRow w (some ⟨b', 0, none⟩) exF) (h3' : IRow w (some ⟨c', 0, none⟩) exF) :
    Calls Try.prog 32 #[.agg #[.int .i64 35, .slice (some ⟨a, 0, none⟩) 4 4, .int .i64 208, .slice (some ⟨b, 0, none⟩) 2 2, .slice (some ⟨c, 0, none⟩) 2 2, .int .i64 6, .bool false], .agg #[.int .i64 35, .slice (some ⟨a', 0, none⟩) 4 4, .int .i64 208, .slice (some ⟨b', 0, none⟩) 2 2, .slice (some ⟨c', 0, none⟩) 2 2, .int .i64 6, .bool false], .agg #[.int .i64 3000, .int .i64 4000], .agg #[.int .i64 3000, .int .i64 4000]] w fun e w' => ∃ ad cap, e = .returned (.tuple #[.slice ad 4 cap, .int .i64 0]) ∧ Gr w w' ∧ SRow w' ad playEx := by
  have h := play_ok 35 208 6 exQ exF exF (some ⟨a, 0, none⟩) (some ⟨b, 0, none⟩) (some ⟨c, 0, none⟩) 4 2 2 false 35 208 6 exP exF exF (some ⟨a', 0, none⟩) (some ⟨b', 0, none⟩) (some ⟨c', 0, none⟩) 4 2 2 false 3000 4000 3000 4000 exG2 exG (by decide) (by decide) w h1 h2 h3 h1' h2' h3'
  rw [playEx_is] at h
  exact h

theorem sort3_ex : sortL [200, 300, 201] = [200, 201, 300] := by simp [sortL, List.mergeSort, List.MergeSort.Internal.splitInTwo]

theorem sort3_hi : sortL [300000, 200000, 200000] = [200000, 200000, 300000] := by simp [sortL, List.mergeSort, List.MergeSort.Internal.splitInTwo]

theorem sort3_lo : sortL [301000, 201000, 202000] = [201000, 202000, 301000] := by simp [sortL, List.mergeSort, List.MergeSort.Internal.splitInTwo]

theorem box02_hi : fitsBox 0 208 exP exF exF false 4000 = [300000, 200000, 200000] := by decide +kernel

theorem box02_lo : fitsBox 0 208 exP exF exF false 3000 = [301000, 201000, 202000] := by decide +kernel

theorem ex_holds (a b c : Nat) (td : Option Addr) (tc : Nat) (w : World) (h1 : IRow w (some ⟨a, 0, none⟩) exP) (h2 : IRow w (some ⟨b, 0, none⟩) exF) (h3 : IRow w (some ⟨c, 0, none⟩) exF) (h4 : IRow w td [200, 300, 201]) :
    Calls Try.prog 35 #[.agg #[.int .i64 35, .slice (some ⟨a, 0, none⟩) 4 4, .int .i64 208, .slice (some ⟨b, 0, none⟩) 2 2, .slice (some ⟨c, 0, none⟩) 2 2, .int .i64 6, .bool false], .agg #[.int .i64 3000, .int .i64 4000], .slice td 3 tc] w fun e w' => e = .returned (.tuple #[.bool false, .bool true, .int .i64 0]) ∧ Gr w w' := by
  have h := holds_ok 35 208 6 exP exF exF (some ⟨a, 0, none⟩) (some ⟨b, 0, none⟩) (some ⟨c, 0, none⟩) 4 2 2 false 3000 4000 [200, 300, 201] exG (by decide) rfl (by decide) td tc w h1 h2 h3 h4
  have e1 : fitsL [200, 300, 201] (fitsBox 0 208 exP exF exF false 4000) = false := by rw [box02_hi]; unfold fitsL; rw [sort3_ex, sort3_hi]; decide
  have e2 : fitsL [200, 300, 201] (fitsBox 0 208 exP exF exF false 3000) = true := by rw [box02_lo]; unfold fitsL; rw [sort3_ex, sort3_lo]; decide
  rw [e1, e2] at h
  exact h

def exR : Rm := ⟨0, 208, 6, exP, exF, exF, false⟩

theorem may2500 : mayB exR exW 2500 = false := by decide +kernel

theorem may3000 : mayB exR exW 3000 = true := by decide +kernel

theorem mayE : firstE [checkE 35 exR.hei exR.slo exR.pan exR.top exR.bot exR.opn, exW.err, measE [⟨2500, 4500⟩], if inB 0 5 [exR.off] = true then 0 else 7] = 0 := by decide +kernel

theorem ex_may (a b c : Nat) (w : World) (h1 : IRow w (some ⟨a, 0, none⟩) exP) (h2 : IRow w (some ⟨b, 0, none⟩) exF) (h3 : IRow w (some ⟨c, 0, none⟩) exF) :
    Calls Try.prog 48 #[.agg #[.int .i64 35, .slice (some ⟨a, 0, none⟩) 4 4, .int .i64 208, .slice (some ⟨b, 0, none⟩) 2 2, .slice (some ⟨c, 0, none⟩) 2 2, .int .i64 6, .bool false], .agg #[.int .i64 300, .int .i64 301, .int .i64 200, .int .i64 201, .int .i64 200, .int .i64 202, .int .i64 (-3), .int .i64 0, .int .i64 0, .int .i64 200, .bool false], .agg #[.int .i64 2500, .int .i64 4500], .int .i64 0] w fun e w' => e = .returned (.tuple #[.int .i64 3000, .int .i64 0]) ∧ Gr w w' := by
  have h := may_any exR exW 2500 4500 35 (some ⟨a, 0, none⟩) (some ⟨b, 0, none⟩) (some ⟨c, 0, none⟩) 4 2 2 w h1 h2 h3
  refine h.mono ?_
  have s0 : startAt 2500 0 = 2500 := rfl
  have s1 : startAt 2500 1 = 3000 := by decide
  intro e w' hq
  unfold MayPost at hq
  obtain ⟨hg, hq⟩ := hq
  rcases hq with hq | hq | hq
  · exact absurd mayE hq.1
  · obtain ⟨k, h1, h2, h3, h4⟩ := hq.2
    clear hq
    obtain _ | _ | k := k
    · rw [s0, may2500] at h3
      cases h3
    · have s1' : startAt 2500 (0 + 1) = 3000 := s1
      rw [s1'] at h4
      exact ⟨h4, hg⟩
    · have := h2 1 (by omega)
      rw [s1, may3000] at this
      cases this
  · obtain ⟨k, h1, h2⟩ := hq.2.1
    clear hq
    obtain _ | _ | k := k
    · rw [s0] at h1
      omega
    · have s1' : startAt 2500 (0 + 1) = 3000 := s1
      rw [s1'] at h1
      omega
    · have := h2 1 (by omega)
      rw [s1, may3000] at this
      cases this

end Go.Proofs.Ytoihnilgmdcndaa

namespace Go.Proofs.Ytoihnilgmdcndaa
set_option linter.unusedVariables false
set_option linter.unusedSimpArgs false
open Go.RowKit

theorem ex_same (P T B P2 T2 B2 : Option Addr) (w : World) (h1 : IRow w P [304, 204, 304, 204]) (h2 : IRow w T [101, 51]) (h3 : IRow w B [101, 51]) (k1 : IRow w P2 [304, 204, 304, 204]) (k2 : IRow w T2 [101, 51]) (k3 : IRow w B2 [101, 51]) :
    Calls Try.prog 20 #[.agg #[.int .i64 35, .slice P 4 4, .int .i64 208, .slice T 2 2, .slice B 2 2, .int .i64 4, .bool false], .agg #[.int .i64 35, .slice P2 4 4, .int .i64 208, .slice T2 2 2, .slice B2 2 2, .int .i64 4, .bool false]] w fun e w' => e = .returned (.bool true) ∧ Gr w w' := by
  have h := same02_any ⟨35, [304, 204, 304, 204], 208, [101, 51], [101, 51], 4, false⟩ ⟨35, [304, 204, 304, 204], 208, [101, 51], [101, 51], 4, false⟩ P T B P2 T2 B2 4 2 2 4 2 2 w ⟨h1, h2, h3⟩ ⟨k1, k2, k3⟩
  rw [(sameB_iff _ _).2 rfl] at h
  exact h

theorem ex_ints4 (a b : Option Addr) (c : Nat) (w : World) (h1 : IRow w a [35, 339, 543, 847]) (h2 : IRow w b [35, 339, 543, 847]) :
    Calls Try.prog 22 #[.slice a 4 c, .slice b 4 4] w fun e w' => e = .returned (.bool true) ∧ Gr w w' := by
  have h := ints02_any [35, 339, 543, 847] [35, 339, 543, 847] a b c 4 w h1 h2
  rw [decide_eq_true rfl] at h
  exact h

theorem ex_ints2 (a b : Option Addr) (c : Nat) (w : World) (h1 : IRow w a [101, 309]) (h2 : IRow w b [101, 309]) :
    Calls Try.prog 22 #[.slice a 2 c, .slice b 2 2] w fun e w' => e = .returned (.bool true) ∧ Gr w w' := by
  have h := ints02_any [101, 309] [101, 309] a b c 2 w h1 h2
  rw [decide_eq_true rfl] at h
  exact h

set_option maxRecDepth 100000 in
set_option maxHeartbeats 8000000 in
theorem known_any (w : World) : Calls Try.prog 15 #[] w fun e w' => e = .returned (.bool true) ∧ Gr w w' := by
  have gX : Gr w w := Below.refl _ _
  go_enter Try.func15, Try.ntmps15
  go_upto_region 2 with (first
    | (go_at_call 60; refine (box02_any 304 204 _).mono ?_; rintro e u0 ⟨a0, b0, c0, rfl, p0, q0, s0, h0⟩)
    | (go_at_call 26; refine (span02_any 3000 4000 _).mono ?_; rintro e u1 ⟨rfl, h1⟩)
    | (go_at_call 23; refine (ex_inner _ _ _ _ (p0.grow h1) (q0.grow h1) (s0.grow h1)).mono ?_; rintro e w1 ⟨i1, k1, rfl, h2, r1⟩))
  have g := h0.tr (h1.tr h2)
  replace gX := gX.tr g
  clear g h0 h1 h2 p0 q0 s0
  obtain ⟨A1, O1, rfl, _⟩ := r1.addr (by decide)
  go_upto_region 3 with (first
    | (go_at_call 60; refine (box02_any 304 204 _).mono ?_; rintro e u0 ⟨a0, b0, c0, rfl, p0, q0, s0, h0⟩)
    | (go_at_call 61; refine (wish02_any _).mono ?_; rintro e u1 ⟨rfl, h1⟩)
    | (go_at_call 26; refine (span02_any 2500 4500 _).mono ?_; rintro e u2 ⟨rfl, h2⟩)
    | (go_at_call 42; refine (ex_close _ _ _ _ (p0.grow (h1.tr h2)) (q0.grow (h1.tr h2)) (s0.grow (h1.tr h2))).mono ?_; rintro e w2 ⟨i3, k3, rfl, h3, r3⟩))
  have g := h0.tr (h1.tr (h2.tr h3))
  replace gX := gX.tr g
  replace r1 := r1.grow g
  clear g h0 h1 h2 h3 p0 q0 s0
  obtain ⟨A3, O3, rfl, _⟩ := r3.addr (by decide)
  go_upto_region 4 with (first
    | (go_at_call 60; refine (box02_any 304 204 _).mono ?_; rintro e u0 ⟨a0, b0, c0, rfl, p0, q0, s0, h0⟩)
    | (go_at_call 61; refine (wish02_any _).mono ?_; rintro e u1 ⟨rfl, h1⟩)
    | (go_at_call 43; refine (ex_cal _ _ _ _ (p0.grow h1) (q0.grow h1) (s0.grow h1)).mono ?_; rintro e u2 ⟨rfl, h2⟩))
  obtain ⟨B5, hB5⟩ : ∃ B5, B5 = u2.heap.size := ⟨_, rfl⟩
  have b5 := Box.new u2 [.int .i64 3000, .int .i64 4000] 37 B5 hB5
  have g := (h0.tr (h1.tr h2)).tr (Gr.al u2 (.cells #[.int .i64 3000, .int .i64 4000] 37))
  replace gX := gX.tr g
  replace r1 := r1.grow g
  replace r3 := r3.grow g
  rw [← hB5]
  refine wp_abs (fun X => Gr w X ∧ SRow X (some ⟨A1, O1, none⟩) inEx ∧ BRow X (some ⟨A3, O3, none⟩) badEx ∧ Box X B5 [.int .i64 3000, .int .i64 4000]) ⟨gX, r1, r3, b5⟩ ?_
  clear gX r1 r3 b5 g h0 h1 h2 p0 q0 s0 hB5
  rintro w3 ⟨gX, r1, r3, b5⟩
  go_upto_region 5 with (first
    | (go_at_call 61; refine (wish02_any _).mono ?_; rintro e u0 ⟨rfl, h0⟩)
    | (go_at_call 26; refine (span02_any 3000 4000 _).mono ?_; rintro e u1 ⟨rfl, h1⟩)
    | (go_at_call 29; refine (ex_blank _).mono ?_; rintro e u2 ⟨P7, T7, C7, rfl, h2, e7, f7, d7⟩))
  obtain ⟨B7, hB7⟩ : ∃ B7, B7 = u2.heap.size := ⟨_, rfl⟩
  have b7 := Box.new u2 [.int .i64 35, .slice (some ⟨P7, 0, none⟩) 4 4, .int .i64 208, .slice (some ⟨T7, 0, none⟩) 2 2, .slice (some ⟨C7, 0, none⟩) 2 2, .int .i64 4, .bool false] 24 B7 hB7
  have gq := Gr.al u2 (.cells #[.int .i64 35, .slice (some ⟨P7, 0, none⟩) 4 4, .int .i64 208, .slice (some ⟨T7, 0, none⟩) 2 2, .slice (some ⟨C7, 0, none⟩) 2 2, .int .i64 4, .bool false] 24)
  replace e7 := e7.grow gq
  replace f7 := f7.grow gq
  replace d7 := d7.grow gq
  have g := (h0.tr (h1.tr h2)).tr gq
  replace gX := gX.tr g
  replace r1 := r1.grow g
  replace r3 := r3.grow g
  replace b5 := b5.keep g
  rw [← hB7]
  refine wp_abs (fun X => Gr w X ∧ SRow X (some ⟨A1, O1, none⟩) inEx ∧ BRow X (some ⟨A3, O3, none⟩) badEx ∧ Box X B5 [.int .i64 3000, .int .i64 4000] ∧ Box X B7 [.int .i64 35, .slice (some ⟨P7, 0, none⟩) 4 4, .int .i64 208, .slice (some ⟨T7, 0, none⟩) 2 2, .slice (some ⟨C7, 0, none⟩) 2 2, .int .i64 4, .bool false] ∧ IRow X (some ⟨P7, 0, none⟩) [304, 204, 304, 204] ∧ IRow X (some ⟨T7, 0, none⟩) [101, 51] ∧ IRow X (some ⟨C7, 0, none⟩) [101, 51]) ⟨gX, r1, r3, b5, b7, e7, f7, d7⟩ ?_
  clear gX r1 r3 b5 b7 e7 f7 d7 g gq h0 h1 h2 hB7
  rintro w4 ⟨gX, r1, r3, b5, b7, e7, f7, d7⟩
  go_upto_region 6 with (first
    | (go_at_call 60; refine (box02_any 304 204 _).mono ?_; rintro e u0 ⟨a0, b0, c0, rfl, p0, q0, s0, h0⟩)
    | (go_at_call 18; refine (ex_size _ _ _ _ p0 q0 s0).mono ?_; rintro e w5 ⟨rfl, h1⟩))
  have g := h0.tr h1
  replace gX := gX.tr g
  replace r1 := r1.grow g
  replace r3 := r3.grow g
  replace b5 := b5.keep g
  replace b7 := b7.keep g
  replace e7 := e7.grow g
  replace f7 := f7.grow g
  replace d7 := d7.grow g
  clear g h0 h1 p0 q0 s0
  go_upto_region 7 with (first
    | (go_at_call 60; refine (box02_any 304 204 _).mono ?_; rintro e u0 ⟨a0, b0, c0, rfl, p0, q0, s0, h0⟩)
    | (go_at_call 19; refine (ex_scores _ _ _ _ p0 q0 s0).mono ?_; rintro e w6 ⟨i14, k14, i15, k15, rfl, h1, r14, r15⟩))
  have g := h0.tr h1
  replace gX := gX.tr g
  replace r1 := r1.grow g
  replace r3 := r3.grow g
  replace b5 := b5.keep g
  replace b7 := b7.keep g
  replace e7 := e7.grow g
  replace f7 := f7.grow g
  replace d7 := d7.grow g
  clear g h0 h1 p0 q0 s0
  obtain ⟨A14, O14, rfl, _⟩ := r14.addr (by decide)
  obtain ⟨A15, O15, rfl, _⟩ := r15.addr (by decide)
  have tok0 : True := trivial
  have tok2 : True := trivial
  go_upto_region 8 with (first
    | (have _t := tok0; clear tok0 _t; go_at_call 60; refine (box02_any 318 218 _).mono ?_; rintro e u0 ⟨a0, b0, c0, rfl, p0, q0, s0, h0⟩)
    | (go_at_call 60; refine (box02_any 304 204 _).mono ?_; rintro e u1 ⟨a1, b1, c1, rfl, p1, q1, s1, h1⟩)
    | (have _t := tok2; clear tok2 _t; go_at_call 26; refine (span02_any 3000 4000 _).mono ?_; rintro e u2 ⟨rfl, h2⟩)
    | (go_at_call 26; refine (span02_any 3000 4000 _).mono ?_; rintro e u3 ⟨rfl, h3⟩)
    | (go_at_call 32; refine (ex_play _ _ _ _ _ _ _ (p0.grow (h1.tr (h2.tr h3))) (q0.grow (h1.tr (h2.tr h3))) (s0.grow (h1.tr (h2.tr h3))) (p1.grow (h2.tr h3)) (q1.grow (h2.tr h3)) (s1.grow (h2.tr h3))).mono ?_; rintro e w7 ⟨i17, k17, rfl, h4, r17⟩))
  have g := h0.tr (h1.tr (h2.tr (h3.tr h4)))
  replace gX := gX.tr g
  replace r1 := r1.grow g
  replace r3 := r3.grow g
  replace b5 := b5.keep g
  replace b7 := b7.keep g
  replace e7 := e7.grow g
  replace f7 := f7.grow g
  replace d7 := d7.grow g
  replace r14 := r14.grow g
  replace r15 := r15.grow g
  clear g h0 h1 h2 h3 h4 p0 q0 s0 p1 q1 s1
  obtain ⟨A17, O17, rfl, _⟩ := r17.addr (by decide)
  go_upto_region 9 with (first
    | (go_at_call 60; refine (box02_any 304 204 _).mono ?_; rintro e u0 ⟨a0, b0, c0, rfl, p0, q0, s0, h0⟩)
    | (go_at_call 26; refine (span02_any 3000 4000 _).mono ?_; rintro e u1 ⟨rfl, h1⟩)
    | (go_at_call 35; refine (ex_holds _ _ _ _ _ _ (p0.grow (h1.tr (Gr.al u1 (.cells #[.int .i64 200, .int .i64 300, .int .i64 201] 3)))) (q0.grow (h1.tr (Gr.al u1 (.cells #[.int .i64 200, .int .i64 300, .int .i64 201] 3)))) (s0.grow (h1.tr (Gr.al u1 (.cells #[.int .i64 200, .int .i64 300, .int .i64 201] 3)))) (IRow.new' u1 3 [200, 300, 201] (by decide) _ rfl _ (by rfl))).mono ?_; rintro e w8 ⟨rfl, h2⟩))
  have g := h0.tr (h1.tr ((Gr.al u1 (.cells #[.int .i64 200, .int .i64 300, .int .i64 201] 3)).tr h2))
  replace gX := gX.tr g
  replace r1 := r1.grow g
  replace r3 := r3.grow g
  replace b5 := b5.keep g
  replace b7 := b7.keep g
  replace e7 := e7.grow g
  replace f7 := f7.grow g
  replace d7 := d7.grow g
  replace r14 := r14.grow g
  replace r15 := r15.grow g
  replace r17 := r17.grow g
  clear g h0 h1 h2 p0 q0 s0
  go_upto_region 10 with (first
    | (go_at_call 60; refine (box02_any 304 204 _).mono ?_; rintro e u0 ⟨a0, b0, c0, rfl, p0, q0, s0, h0⟩)
    | (go_at_call 61; refine (wish02_any _).mono ?_; rintro e u1 ⟨rfl, h1⟩)
    | (go_at_call 26; refine (span02_any 2500 4500 _).mono ?_; rintro e u2 ⟨rfl, h2⟩)
    | (go_at_call 48; refine (ex_may _ _ _ _ (p0.grow (h1.tr h2)) (q0.grow (h1.tr h2)) (s0.grow (h1.tr h2))).mono ?_; rintro e w9 ⟨rfl, h3⟩))
  have g := h0.tr (h1.tr (h2.tr h3))
  replace gX := gX.tr g
  replace r1 := r1.grow g
  replace r3 := r3.grow g
  replace b5 := b5.keep g
  replace b7 := b7.keep g
  replace e7 := e7.grow g
  replace f7 := f7.grow g
  replace d7 := d7.grow g
  replace r14 := r14.grow g
  replace r15 := r15.grow g
  replace r17 := r17.grow g
  clear g h0 h1 h2 h3 p0 q0 s0
  go_upto_region 12 with fail
  refine (show (∀ n : Nat → Value, Code.wp Try.prog _ _ ⟨#[.bool false, .slice (some ⟨A1, O1, none⟩) 9 k1, .int .i64 0, .slice (some ⟨A3, O3, none⟩) 5 k3, .int .i64 0, .pointer (some ⟨B5, 0, none⟩), .int .i64 0, .pointer (some ⟨B7, 0, none⟩), .int .i64 0, .int .i64 0, .int .i64 1051, .int .i64 410, .int .i64 430910, .int .i64 0, .slice (some ⟨A14, O14, none⟩) 4 k14, .slice (some ⟨A15, O15, none⟩) 2 k15, .int .i64 0, .slice (some ⟨A17, O17, none⟩) 4 k17, .int .i64 0, .bool false, .bool true, .int .i64 0, .int .i64 3000, .int .i64 0, undef, n 25, n 26, n 27, n 28, n 29, n 30, n 31, n 32, n 33, n 34, n 35, n 36, n 37, n 38, n 39, n 40, n 41, n 42, n 43, n 44, n 45, n 46, n 47, n 48, n 49, n 50, n 51, n 52, n 53, n 54, n 55, n 56, n 57, n 58, n 59, n 60, n 61, n 62, n 63, n 64, n 65, n 66, n 67, n 68, n 69, n 70, n 71, n 72, n 73, n 74, n 75, n 76, n 77, n 78, n 79, n 80, n 81, n 82, n 83, n 84, n 85, n 86, n 87, n 88, n 89, n 90, n 91, n 92, n 93, n 94, n 95, n 96, n 97, n 98, n 99, n 100, n 101, n 102, n 103, n 104, n 105, n 106, n 107, n 108, n 109, n 110, n 111, n 112, n 113, n 114, n 115, n 116, n 117, n 118, n 119, n 120, n 121, n 122, n 123, n 124, n 125, n 126, n 127, n 128, n 129, n 130, n 131, n 132, n 133, n 134, n 135, undef, undef, undef, undef, undef, undef, undef, undef, undef, undef, undef, undef, undef, undef, undef, undef, undef, undef, undef, undef, undef, undef, undef, undef, undef, undef, undef, undef, undef, undef, undef, undef, undef, undef, undef, undef, undef, undef, undef, undef, undef, undef, undef, undef, undef, undef, undef, undef, undef, undef, undef, undef, undef, undef, undef, undef, undef, undef, undef, undef, undef, undef, undef, undef, undef, undef, undef, undef, undef, undef, undef, undef, undef, undef, undef, undef, undef, undef], []⟩ _) → _ from fun h => h ((fun l : List Value => fun i => l.getD i undef) [undef, undef, undef, undef, undef, undef, undef, undef, undef, undef, undef, undef, undef, undef, undef, undef, undef, undef, undef, undef, undef, undef, undef, undef, undef, _, _, _, _, _, _, _, _, _, _, _, _, _, _, _, _, _, _, _, _, _, _, _, _, _, _, _, _, _, _, _, _, _, _, _, _, _, _, _, _, _, _, _, _, _, _, _, _, _, _, _, _, _, _, _, _, _, _, _, _, _, _, _, _, _, _, _, _, _, _, _, _, _, _, _, _, _, _, _, _, _, _, _, _, _, _, _, _, _, _, _, _, _, _, _, _, _, _, _, _, _, _, _, _, _, _, _, _, _, _, _])) ?_
  intro n
  dsimp only
  obtain ⟨_, _, he0, _, e10, e11⟩ := SRow.get r1 (j := 0) (x := ⟨300000, 301000⟩) rfl
  obtain ⟨_, _, he4, _, e14, e15⟩ := SRow.get r1 (j := 4) (x := ⟨200000, 202000⟩) rfl
  obtain ⟨_, _, he5, _, e16, e17⟩ := SRow.get r1 (j := 5) (x := ⟨-2000, -1000⟩) rfl
  obtain ⟨_, _, he3, _, hc3⟩ := r3.2 4 (4, 2500) rfl
  cases he0
  cases he4
  cases he5
  cases he3
  have e34 := hc3 0 _ rfl
  have e35 := hc3 1 _ rfl
  obtain ⟨e50, e51⟩ := b5.c2
  clear hc3
  simp only [Nat.zero_mul, Nat.add_zero, Nat.reduceMul] at e10 e11 e14 e15 e16 e17 e34 e35
  have gv := Gr.dr w9
  have x0 := gv.keep e10
  have x1 := gv.keep e11
  have x2 := gv.keep e14
  have x3 := gv.keep e15
  have x4 := gv.keep e16
  have x5 := gv.keep e17
  have x6 := gv.keep e34
  have x7 := gv.keep e35
  have x8 := gv.keep e50
  have x9 := gv.keep e51
  have tk0 : True := trivial
  have tk1 : True := trivial
  have tk2 : True := trivial
  go_region_held3 (fun w' => w'.cell? ⟨A1, O1, none⟩ = some (.int .i64 300000) ∧ w'.cell? ⟨A1, O1 + 1, none⟩ = some (.int .i64 301000) ∧ w'.cell? ⟨A1, O1 + 8, none⟩ = some (.int .i64 200000) ∧ w'.cell? ⟨A1, O1 + 8 + 1, none⟩ = some (.int .i64 202000) ∧ w'.cell? ⟨A1, O1 + 10, none⟩ = some (.int .i64 (-2000)) ∧ w'.cell? ⟨A1, O1 + 10 + 1, none⟩ = some (.int .i64 (-1000)) ∧ w'.cell? ⟨A3, O3 + 8, none⟩ = some (.int .i64 4) ∧ w'.cell? ⟨A3, O3 + 8 + 1, none⟩ = some (.int .i64 2500) ∧ w'.cell? ⟨B5, 0, none⟩ = some (.int .i64 3000) ∧ w'.cell? ⟨B5, 1, none⟩ = some (.int .i64 4000)) (first | exact ⟨x0, x1, x2, x3, x4, x5, x6, x7, x8, x9⟩ | go_keep) (first
    | (have _t := tk0; clear tk0 _t; go_at_call 26; (refine (span02_any 300000 301000 _).mono ?_); rintro e wq ⟨rfl, hy⟩; replace gv := gv.tr hy; (have x0 := gv.keep e10; have x1 := gv.keep e11; have x2 := gv.keep e14; have x3 := gv.keep e15; have x4 := gv.keep e16; have x5 := gv.keep e17; have x6 := gv.keep e34; have x7 := gv.keep e35; have x8 := gv.keep e50; have x9 := gv.keep e51))
    | (have _t := tk1; clear tk1 _t; go_at_call 26; (refine (span02_any 200000 202000 _).mono ?_); rintro e wq ⟨rfl, hy⟩; replace gv := gv.tr hy; (have x0 := gv.keep e10; have x1 := gv.keep e11; have x2 := gv.keep e14; have x3 := gv.keep e15; have x4 := gv.keep e16; have x5 := gv.keep e17; have x6 := gv.keep e34; have x7 := gv.keep e35; have x8 := gv.keep e50; have x9 := gv.keep e51))
    | (have _t := tk2; clear tk2 _t; go_at_call 26; (refine (span02_any (-2000) (-1000) _).mono ?_); rintro e wq ⟨rfl, hy⟩; replace gv := gv.tr hy; (have x0 := gv.keep e10; have x1 := gv.keep e11; have x2 := gv.keep e14; have x3 := gv.keep e15; have x4 := gv.keep e16; have x5 := gv.keep e17; have x6 := gv.keep e34; have x7 := gv.keep e35; have x8 := gv.keep e50; have x9 := gv.keep e51))
    | (go_at_call 26; (refine (span02_any 3000 4000 _).mono ?_); rintro e wq ⟨rfl, hy⟩; replace gv := gv.tr hy; (have x0 := gv.keep e10; have x1 := gv.keep e11; have x2 := gv.keep e14; have x3 := gv.keep e15; have x4 := gv.keep e16; have x5 := gv.keep e17; have x6 := gv.keep e34; have x7 := gv.keep e35; have x8 := gv.keep e50; have x9 := gv.keep e51)))
  clear x0 x1 x2 x3 x4 x5 x6 x7 x8 x9 e10 e11 e14 e15 e16 e17 e34 e35 e50 e51
  replace gX := gX.tr gv
  replace b7 := b7.keep gv
  replace e7 := e7.grow gv
  replace f7 := f7.grow gv
  replace d7 := d7.grow gv
  replace r14 := r14.grow gv
  replace r15 := r15.grow gv
  replace r17 := r17.grow gv
  clear gv r1 r3 b5
  go_upto_region 15 with fail
  obtain ⟨N, hN⟩ : ∃ N, N = wq.heap.size := ⟨_, rfl⟩
  rw [← hN]
  have g1 := Gr.al wq (.cells #[.int .i64 304, .int .i64 204, .int .i64 304, .int .i64 204] 3)
  have g2 := Gr.al (wq.alloc (.cells #[.int .i64 304, .int .i64 204, .int .i64 304, .int .i64 204] 3)) (.cells #[.int .i64 101, .int .i64 51] 3)
  have g3 := Gr.al ((wq.alloc (.cells #[.int .i64 304, .int .i64 204, .int .i64 304, .int .i64 204] 3)).alloc (.cells #[.int .i64 101, .int .i64 51] 3)) (.cells #[.int .i64 101, .int .i64 51] 3)
  have g4 := Gr.al (((wq.alloc (.cells #[.int .i64 304, .int .i64 204, .int .i64 304, .int .i64 204] 3)).alloc (.cells #[.int .i64 101, .int .i64 51] 3)).alloc (.cells #[.int .i64 101, .int .i64 51] 3)) (.cells #[.int .i64 35, .slice (some ⟨N, 0, none⟩) 4 4, .int .i64 208, .slice (some ⟨N + 1, 0, none⟩) 2 2, .slice (some ⟨N + 1 + 1, 0, none⟩) 2 2, .int .i64 4, .bool false] 24)
  have z1 := (IRow.new' wq 3 [304, 204, 304, 204] (by decide) N hN #[.int .i64 304, .int .i64 204, .int .i64 304, .int .i64 204] (by rfl)).grow (g2.tr (g3.tr g4))
  have z2 := (IRow.new' (wq.alloc (.cells #[.int .i64 304, .int .i64 204, .int .i64 304, .int .i64 204] 3)) 3 [101, 51] (by decide) (N + 1) (by simp [hN]) #[.int .i64 101, .int .i64 51] (by rfl)).grow (g3.tr g4)
  have z3 := (IRow.new' ((wq.alloc (.cells #[.int .i64 304, .int .i64 204, .int .i64 304, .int .i64 204] 3)).alloc (.cells #[.int .i64 101, .int .i64 51] 3)) 3 [101, 51] (by decide) (N + 1 + 1) (by simp [hN]) #[.int .i64 101, .int .i64 51] (by rfl)).grow g4
  have b24 := Box.new (((wq.alloc (.cells #[.int .i64 304, .int .i64 204, .int .i64 304, .int .i64 204] 3)).alloc (.cells #[.int .i64 101, .int .i64 51] 3)).alloc (.cells #[.int .i64 101, .int .i64 51] 3)) [.int .i64 35, .slice (some ⟨N, 0, none⟩) 4 4, .int .i64 208, .slice (some ⟨N + 1, 0, none⟩) 2 2, .slice (some ⟨N + 1 + 1, 0, none⟩) 2 2, .int .i64 4, .bool false] 24 (N + 1 + 1 + 1) (by simp [hN])
  have g := g1.tr (g2.tr (g3.tr g4))
  refine wp_abs (fun Y => Gr w Y ∧ Box Y B7 [.int .i64 35, .slice (some ⟨P7, 0, none⟩) 4 4, .int .i64 208, .slice (some ⟨T7, 0, none⟩) 2 2, .slice (some ⟨C7, 0, none⟩) 2 2, .int .i64 4, .bool false] ∧ Box Y (N + 1 + 1 + 1) [.int .i64 35, .slice (some ⟨N, 0, none⟩) 4 4, .int .i64 208, .slice (some ⟨N + 1, 0, none⟩) 2 2, .slice (some ⟨N + 1 + 1, 0, none⟩) 2 2, .int .i64 4, .bool false] ∧ (IRow Y (some ⟨P7, 0, none⟩) [304, 204, 304, 204] ∧ IRow Y (some ⟨T7, 0, none⟩) [101, 51] ∧ IRow Y (some ⟨C7, 0, none⟩) [101, 51]) ∧ (IRow Y (some ⟨N, 0, none⟩) [304, 204, 304, 204] ∧ IRow Y (some ⟨N + 1, 0, none⟩) [101, 51] ∧ IRow Y (some ⟨N + 1 + 1, 0, none⟩) [101, 51]) ∧ IRow Y (some ⟨A14, O14, none⟩) [35, 339, 543, 847] ∧ IRow Y (some ⟨A15, O15, none⟩) [101, 309] ∧ SRow Y (some ⟨A17, O17, none⟩) playEx) ⟨gX.tr g, b7.keep g, b24, ⟨e7.grow g, f7.grow g, d7.grow g⟩, ⟨z1, z2, z3⟩, r14.grow g, r15.grow g, r17.grow g⟩ ?_
  clear gX b7 b24 e7 f7 d7 z1 z2 z3 r14 r15 r17 g g1 g2 g3 g4 hN
  rintro Y ⟨gX, b7, b24, ⟨e7, f7, d7⟩, ⟨z1, z2, z3⟩, r14, r15, r17⟩
  refine (show (∀ m : Nat → Value, Code.wp Try.prog _ _ ⟨#[.bool false, .slice (some ⟨A1, O1, none⟩) 9 k1, .int .i64 0, .slice (some ⟨A3, O3, none⟩) 5 k3, .int .i64 0, .pointer (some ⟨B5, 0, none⟩), .int .i64 0, .pointer (some ⟨B7, 0, none⟩), .int .i64 0, .int .i64 0, .int .i64 1051, .int .i64 410, .int .i64 430910, .int .i64 0, .slice (some ⟨A14, O14, none⟩) 4 k14, .slice (some ⟨A15, O15, none⟩) 2 k15, .int .i64 0, .slice (some ⟨A17, O17, none⟩) 4 k17, .int .i64 0, .bool false, .bool true, .int .i64 0, .int .i64 3000, .int .i64 0, .pointer (some ⟨(N + 1 + 1 + 1), 0, none⟩), m 25, m 26, m 27, m 28, m 29, m 30, m 31, m 32, m 33, m 34, m 35, m 36, m 37, m 38, m 39, m 40, m 41, m 42, m 43, m 44, m 45, m 46, m 47, m 48, m 49, m 50, m 51, m 52, m 53, m 54, m 55, m 56, m 57, m 58, m 59, m 60, m 61, m 62, m 63, m 64, m 65, m 66, m 67, m 68, m 69, m 70, m 71, m 72, m 73, m 74, m 75, m 76, m 77, m 78, m 79, m 80, m 81, m 82, m 83, m 84, m 85, m 86, m 87, m 88, m 89, m 90, m 91, m 92, m 93, m 94, m 95, m 96, m 97, m 98, m 99, m 100, m 101, m 102, m 103, m 104, m 105, m 106, m 107, m 108, m 109, m 110, m 111, m 112, m 113, m 114, m 115, m 116, m 117, m 118, m 119, m 120, m 121, m 122, m 123, m 124, m 125, m 126, m 127, m 128, m 129, m 130, m 131, m 132, m 133, m 134, m 135, m 136, m 137, m 138, m 139, m 140, m 141, m 142, m 143, m 144, m 145, m 146, m 147, m 148, m 149, m 150, m 151, m 152, m 153, m 154, m 155, m 156, m 157, m 158, m 159, m 160, m 161, m 162, m 163, m 164, m 165, m 166, m 167, m 168, m 169, m 170, m 171, m 172, m 173, m 174, undef, undef, undef, undef, undef, undef, undef, undef, undef, undef, undef, undef, undef, undef, undef, undef, undef, undef, undef, undef, undef, undef, undef, undef, undef, undef, undef, undef, undef, undef, undef, undef, undef, undef, undef, undef, undef, undef, undef], []⟩ _) → _ from fun h => h ((fun l : List Value => fun i => l.getD i undef) [undef, undef, undef, undef, undef, undef, undef, undef, undef, undef, undef, undef, undef, undef, undef, undef, undef, undef, undef, undef, undef, undef, undef, undef, undef, _, _, _, _, _, _, _, _, _, _, _, _, _, _, _, _, _, _, _, _, _, _, _, _, _, _, _, _, _, _, _, _, _, _, _, _, _, _, _, _, _, _, _, _, _, _, _, _, _, _, _, _, _, _, _, _, _, _, _, _, _, _, _, _, _, _, _, _, _, _, _, _, _, _, _, _, _, _, _, _, _, _, _, _, _, _, _, _, _, _, _, _, _, _, _, _, _, _, _, _, _, _, _, _, _, _, _, _, _, _, _, _, _, _, _, _, _, _, _, _, _, _, _, _, _, _, _, _, _, _, _, _, _, _, _, _, _, _, _, _, _, _, _, _, _, _, _, _, _, _])) ?_
  intro m
  dsimp only
  have c0 := b7.2 0 _ rfl
  have c1 := b7.2 1 _ rfl
  have c2 := b7.2 2 _ rfl
  have c3 := b7.2 3 _ rfl
  have c4 := b7.2 4 _ rfl
  have c5 := b7.2 5 _ rfl
  have c6 := b7.2 6 _ rfl
  have y0 := b24.2 0 _ rfl
  have y1 := b24.2 1 _ rfl
  have y2 := b24.2 2 _ rfl
  have y3 := b24.2 3 _ rfl
  have y4 := b24.2 4 _ rfl
  have y5 := b24.2 5 _ rfl
  have y6 := b24.2 6 _ rfl
  obtain ⟨_, _, he17, _, e170, e171⟩ := SRow.get r17 (j := 3) (x := ⟨6000, 8000⟩) rfl
  cases he17
  simp only [Nat.reduceMul] at e170 e171
  have gv := Gr.dr Y
  have x0 := gv.keep c0
  have x1 := gv.keep c1
  have x2 := gv.keep c2
  have x3 := gv.keep c3
  have x4 := gv.keep c4
  have x5 := gv.keep c5
  have x6 := gv.keep c6
  have x7 := gv.keep y0
  have x8 := gv.keep y1
  have x9 := gv.keep y2
  have x10 := gv.keep y3
  have x11 := gv.keep y4
  have x12 := gv.keep y5
  have x13 := gv.keep y6
  have x14 := gv.keep e170
  have x15 := gv.keep e171
  have tk0 : True := trivial
  go_region_held3 (fun w' => w'.cell? ⟨B7, 0, none⟩ = some (.int .i64 35) ∧ w'.cell? ⟨B7, 1, none⟩ = some (.slice (some ⟨P7, 0, none⟩) 4 4) ∧ w'.cell? ⟨B7, 2, none⟩ = some (.int .i64 208) ∧ w'.cell? ⟨B7, 3, none⟩ = some (.slice (some ⟨T7, 0, none⟩) 2 2) ∧ w'.cell? ⟨B7, 4, none⟩ = some (.slice (some ⟨C7, 0, none⟩) 2 2) ∧ w'.cell? ⟨B7, 5, none⟩ = some (.int .i64 4) ∧ w'.cell? ⟨B7, 6, none⟩ = some (.bool false) ∧ w'.cell? ⟨N + 1 + 1 + 1, 0, none⟩ = some (.int .i64 35) ∧ w'.cell? ⟨N + 1 + 1 + 1, 1, none⟩ = some (.slice (some ⟨N, 0, none⟩) 4 4) ∧ w'.cell? ⟨N + 1 + 1 + 1, 2, none⟩ = some (.int .i64 208) ∧ w'.cell? ⟨N + 1 + 1 + 1, 3, none⟩ = some (.slice (some ⟨N + 1, 0, none⟩) 2 2) ∧ w'.cell? ⟨N + 1 + 1 + 1, 4, none⟩ = some (.slice (some ⟨N + 1 + 1, 0, none⟩) 2 2) ∧ w'.cell? ⟨N + 1 + 1 + 1, 5, none⟩ = some (.int .i64 4) ∧ w'.cell? ⟨N + 1 + 1 + 1, 6, none⟩ = some (.bool false) ∧ w'.cell? ⟨A17, O17 + 6, none⟩ = some (.int .i64 6000) ∧ w'.cell? ⟨A17, O17 + 6 + 1, none⟩ = some (.int .i64 8000)) (first | exact ⟨x0, x1, x2, x3, x4, x5, x6, x7, x8, x9, x10, x11, x12, x13, x14, x15⟩ | go_keep) (first
    | (go_at_call 20; (refine (ex_same _ _ _ _ _ _ _ (e7.grow gv) (f7.grow gv) (d7.grow gv) (z1.grow gv) (z2.grow gv) (z3.grow gv)).mono ?_); rintro e wq ⟨rfl, hy⟩; replace gv := gv.tr hy; (have x0 := gv.keep c0; have x1 := gv.keep c1; have x2 := gv.keep c2; have x3 := gv.keep c3; have x4 := gv.keep c4; have x5 := gv.keep c5; have x6 := gv.keep c6; have x7 := gv.keep y0; have x8 := gv.keep y1; have x9 := gv.keep y2; have x10 := gv.keep y3; have x11 := gv.keep y4; have x12 := gv.keep y5; have x13 := gv.keep y6; have x14 := gv.keep e170; have x15 := gv.keep e171))
    | (have _t := tk0; clear tk0 _t; go_at_call 22; (refine (ex_ints4 _ _ _ _ (r14.grow (gv.tr (Gr.al _ _))) (IRow.new' _ 3 [35, 339, 543, 847] (by decide) _ rfl _ (by rfl))).mono ?_); rintro e wq ⟨rfl, hy⟩; replace gv := (gv.tr (Gr.al _ _)).tr hy; (have x0 := gv.keep c0; have x1 := gv.keep c1; have x2 := gv.keep c2; have x3 := gv.keep c3; have x4 := gv.keep c4; have x5 := gv.keep c5; have x6 := gv.keep c6; have x7 := gv.keep y0; have x8 := gv.keep y1; have x9 := gv.keep y2; have x10 := gv.keep y3; have x11 := gv.keep y4; have x12 := gv.keep y5; have x13 := gv.keep y6; have x14 := gv.keep e170; have x15 := gv.keep e171))
    | (go_at_call 22; (refine (ex_ints2 _ _ _ _ (r15.grow (gv.tr (Gr.al _ _))) (IRow.new' _ 3 [101, 309] (by decide) _ rfl _ (by rfl))).mono ?_); rintro e wq ⟨rfl, hy⟩; replace gv := (gv.tr (Gr.al _ _)).tr hy; (have x0 := gv.keep c0; have x1 := gv.keep c1; have x2 := gv.keep c2; have x3 := gv.keep c3; have x4 := gv.keep c4; have x5 := gv.keep c5; have x6 := gv.keep c6; have x7 := gv.keep y0; have x8 := gv.keep y1; have x9 := gv.keep y2; have x10 := gv.keep y3; have x11 := gv.keep y4; have x12 := gv.keep y5; have x13 := gv.keep y6; have x14 := gv.keep e170; have x15 := gv.keep e171))
    | (go_at_call 26; (refine (span02_any 6000 8000 _).mono ?_); rintro e wq ⟨rfl, hy⟩; replace gv := gv.tr hy; (have x0 := gv.keep c0; have x1 := gv.keep c1; have x2 := gv.keep c2; have x3 := gv.keep c3; have x4 := gv.keep c4; have x5 := gv.keep c5; have x6 := gv.keep c6; have x7 := gv.keep y0; have x8 := gv.keep y1; have x9 := gv.keep y2; have x10 := gv.keep y3; have x11 := gv.keep y4; have x12 := gv.keep y5; have x13 := gv.keep y6; have x14 := gv.keep e170; have x15 := gv.keep e171)))
  all_goals
    go_wp2
    go_ret
    exact ⟨rfl, gX.tr gv⟩

end Go.Proofs.Ytoihnilgmdcndaa
