/- compared: two blanks by their numbers (chapter 2). (Made by gen_s69.py.) The smallest blank in letters: it closes, and is not greater than any that does (chapter 2, without memory). score.Close of arguments with an error. (Made by gen_s70.py.) What Close names: checks that do not hold with their calipers, and hold with all smaller ones; named (chapter 2). Blank, own and Close of the smallest blank (chapter 2). A blank with one number smaller by one than the smallest does not close (chapter 2, without memory). A region that draws its order, in which one variable is made and written once; what comes up behind the write knows only what is known of values. As R19, and what the variable holds after the write, said by the value that was written. ScoreLeast's body. (Made by gen_s71.py.) A law's end: it returned true and the world only grew. And: what an argument is that is made of integers of one kind. What an argument is that is a slice of small arrays of integers; a struct of three slices; the pieces of a struct. A sheet that comes in (chapter 2). (Made by gen_s65.py.) What the bytes of a sheet say (chapter 2). (Made by gen_s68.py.) A wish around a blank: with all calipers each check holds (chapter 2, without memory). ScoreLeast for sheets of bytes. (Made by gen_s72.py.) -/
import Derived.Test.YtoihnilgmdcndaaQS72a
import Derived.BigQuiet
import Derived.Test.YtoihnilgmdcndaaQS32d
import Derived.Test.YtoihnilgmdcndaaQS32c
import Derived.Test.YtoihnilgmdcndaaQS32a
import Derived.Test.YtoihnilgmdcndaaQS32b
import Derived.Deep.CutBlock
import Derived.ProofKit
import Derived.OpenShut
import Derived.ChangeSame
import Derived.Carry
namespace Go.Proofs.Ytoihnilgmdcndaa
set_option linter.unusedVariables false
set_option linter.unusedSimpArgs false
open Go.RowKit

/-- The first difference. -/
def cmpL : List Int → List Int → Int
 | a :: x, b :: y => if a = b then cmpL x y else a - b
 | _, _ => 0

theorem cmpL_at {x y : List Int} (hl : x.length = y.length) : ∀ {i : Nat} {a b : Int}, x.take i = y.take i → x[i]? = some a → y[i]? = some b → a ≠ b → cmpL x y = a - b := by
 induction x generalizing y with
 | nil => intro i a b _ h; simp at h
 | cons c x ih =>
  intro i a b ht h1 h2 hne
  cases y with
  | nil => simp at h2
  | cons d y =>
   cases i with
   | zero =>
    simp at h1 h2
    subst h1 h2
    simp [cmpL, hne]
   | succ i =>
    simp at ht h1 h2
    obtain ⟨rfl, ht⟩ := ht
    simp only [cmpL, if_true]
    exact ih (by simpa using hl) ht h1 h2 hne

theorem cmpL_self (x : List Int) : cmpL x x = 0 := by
 induction x with
 | nil => rfl
 | cons c x ih => simp [cmpL, ih]

set_option maxRecDepth 100000 in
set_option maxHeartbeats 16000000 in
theorem compared_any (tab p0 p1 p2 p3 t0 t1 s0 s1 hei slo : Int) (o : Bool) (pa ta ba : Option Addr) (pc tc bc : Nat) (tab' q0 q1 q2 q3 e0 e1 z0 z1 hei' slo' : Int) (o' : Bool) (pa' ta' ba' : Option Addr) (pc' tc' bc' : Nat)
  (HN : Hid (inB 0 100000 [p0, p1, p2, p3, t0, t1, s0, s1, hei, slo] = true ∧ inB 0 100000 [q0, q1, q2, q3, e0, e1, z0, z1, hei', slo'] = true)) (w : World) (hp : IRow w pa [p0, p1, p2, p3]) (ht : IRow w ta [t0, t1]) (hb : IRow w ba [s0, s1]) (hp' : IRow w pa' [q0, q1, q2, q3]) (ht' : IRow w ta' [e0, e1]) (hb' : IRow w ba' [z0, z1]) :
  Calls Try.prog 46 #[.agg #[.int .i64 tab, .slice pa 4 pc, .int .i64 hei, .slice ta 2 tc, .slice ba 2 bc, .int .i64 slo, .bool o], .agg #[.int .i64 tab', .slice pa' 4 pc', .int .i64 hei', .slice ta' 2 tc', .slice ba' 2 bc', .int .i64 slo', .bool o']] w fun e w' => e = .returned (.int .i64 (cmpL [p0, p1, p2, p3, t0, t1, s0, s1, hei, slo] [q0, q1, q2, q3, e0, e1, z0, z1, hei', slo'])) ∧ Gr w w' := by
 obtain ⟨X, hX⟩ : ∃ X, X = [p0, p1, p2, p3, t0, t1, s0, s1, hei, slo] := ⟨_, rfl⟩
 obtain ⟨Y, hY⟩ : ∃ Y, Y = [q0, q1, q2, q3, e0, e1, z0, z1, hei', slo'] := ⟨_, rfl⟩
 rw [show cmpL [p0, p1, p2, p3, t0, t1, s0, s1, hei, slo] [q0, q1, q2, q3, e0, e1, z0, z1, hei', slo'] = cmpL X Y by rw [hX, hY]]
 have HX := Lib.hid hX
 have HY := Lib.hid hY
 clear hX hY
 have gg := (Gr.al w (.cells #[.int .i64 tab, .slice pa 4 pc, .int .i64 hei, .slice ta 2 tc, .slice ba 2 bc, .int .i64 slo, .bool o] 24)).tr (Gr.al _ (.cells #[.int .i64 tab', .slice pa' 4 pc', .int .i64 hei', .slice ta' 2 tc', .slice ba' 2 bc', .int .i64 slo', .bool o'] 24))
 have h1 := (Box.new w [.int .i64 tab, .slice pa 4 pc, .int .i64 hei, .slice ta 2 tc, .slice ba 2 bc, .int .i64 slo, .bool o] 24 w.heap.size rfl).keep (Gr.al _ (.cells #[.int .i64 tab', .slice pa' 4 pc', .int .i64 hei', .slice ta' 2 tc', .slice ba' 2 bc', .int .i64 slo', .bool o'] 24))
 have h2 := Box.new (w.alloc (.cells #[.int .i64 tab, .slice pa 4 pc, .int .i64 hei, .slice ta 2 tc, .slice ba 2 bc, .int .i64 slo, .bool o] 24)) [.int .i64 tab', .slice pa' 4 pc', .int .i64 hei', .slice ta' 2 tc', .slice ba' 2 bc', .int .i64 slo', .bool o'] 24 (w.heap.size + 1) (by simp)
 go_enter Try.func46, Try.ntmps46
 go_upto_region 1 with fail
 refine wp_abs (fun U => Gr w U ∧ Box U w.heap.size [.int .i64 tab, .slice pa 4 pc, .int .i64 hei, .slice ta 2 tc, .slice ba 2 bc, .int .i64 slo, .bool o] ∧ Box U (w.heap.size + 1) [.int .i64 tab', .slice pa' 4 pc', .int .i64 hei', .slice ta' 2 tc', .slice ba' 2 bc', .int .i64 slo', .bool o']) ⟨gg, h1, h2⟩ ?_
 clear gg h1 h2
 rintro U ⟨gU, h1, h2⟩
 replace hp := hp.grow gU
 replace ht := ht.grow gU
 replace hb := hb.grow gU
 replace hp' := hp'.grow gU
 replace ht' := ht'.grow gU
 replace hb' := hb'.grow gU
 refine wp_region_chain 15 2 5 8 14 13 [(1, 0), (2, 1), (4, 3), (5, 2), (5, 4), (7, 6), (8, 5), (8, 7), (10, 9), (12, 11), (13, 10), (13, 12), (14, 8), (14, 13)] (fun x => ⟨#[.agg #[.int .i64 tab, .slice pa 4 pc, .int .i64 hei, .slice ta 2 tc, .slice ba 2 bc, .int .i64 slo, .bool o], .agg #[.int .i64 tab', .slice pa' 4 pc', .int .i64 hei', .slice ta' 2 tc', .slice ba' 2 bc', .int .i64 slo', .bool o'], .pointer (some ⟨w.heap.size, 0, none⟩), .pointer (some ⟨(w.heap.size + 1), 0, none⟩), .int .i64 0, undef, undef, undef, x 0, x 1, x 2, x 3, x 4, x 5, x 6, x 7, x 8, x 9, x 10, x 11, x 12, x 13, x 14, undef, undef, undef, undef, undef, undef, undef, undef, undef, undef, undef, undef, undef, undef, undef, undef, undef, undef, undef, undef, undef, undef, undef, undef, undef, undef, undef, undef, undef, undef, undef, undef, undef, undef, undef, undef, undef, undef, undef, undef, undef, undef, undef, undef, undef, undef, undef, undef, undef, undef], []⟩) (fun _ => undef) (fun j u => u = ([.pointer (some ⟨w.heap.size, 1, none⟩), .slice pa 4 pc, undef, .pointer (some ⟨w.heap.size, 3, none⟩), .slice ta 2 tc, undef, .pointer (some ⟨w.heap.size, 4, none⟩), .slice ba 2 bc, undef, .pointer (some ⟨w.heap.size, 2, none⟩), .int .i64 hei, .pointer (some ⟨w.heap.size, 5, none⟩), .int .i64 slo, undef, undef] : List Value).getD j undef) (fun v u => ∃ b, u = .slice (some ⟨b, 0, none⟩) 2 2 ∧ IRow v (some ⟨b, 0, none⟩) [hei, slo]) (fun v u => v.ownsRow U.heap.size 3 1 u 4 (([p0, p1, p2, p3].map (fun n => Value.int .i64 n)))) (fun v u => v.ownsRow U.heap.size 3 1 u 6 (([p0, p1, p2, p3].map (fun n => Value.int .i64 n)) ++ ([t0, t1].map (fun n => Value.int .i64 n)))) (fun v u => v.ownsRow U.heap.size 3 1 u 8 ((([p0, p1, p2, p3].map (fun n => Value.int .i64 n)) ++ ([t0, t1].map (fun n => Value.int .i64 n))) ++ ([s0, s1].map (fun n => Value.int .i64 n)))) (fun v u => v.ownsRow U.heap.size 3 1 u 10 (((([p0, p1, p2, p3].map (fun n => Value.int .i64 n)) ++ ([t0, t1].map (fun n => Value.int .i64 n))) ++ ([s0, s1].map (fun n => Value.int .i64 n))) ++ ([hei, slo].map (fun n => Value.int .i64 n)))) (by rfl) (by kernel_rfl) (by kernel_rfl) (by kernel_rfl) (by decide) (by decide) (by decide) (fun v v' x g h => owns_keep h g) (fun v v' x g h => owns_keep h g) (fun v v' x g h => owns_keep h g) (fun v v' x g h => owns_keep h g) (fun v v' x g ⟨b, h, r⟩ => ⟨b, h, r.grow g⟩) (fun v v' u Z k hz ⟨b, h, r⟩ => ⟨b, h, RowOf.kx r k (fun b2 off e2 hz2 => by cases e2; exact hz _ (by rw [h]; simp [hasB, blkOf]) hz2)⟩) ?st1 ?pp1 ?c01 ?c11 ?c21 ?c31 ?fin1
 case st1 =>
  rintro i hi hni x v gv hd K hK
  have hi8 : i = 0 ∨ i = 1 ∨ i = 3 ∨ i = 4 ∨ i = 6 ∨ i = 7 ∨ i = 9 ∨ i = 10 ∨ i = 11 ∨ i = 12 := by
   simp only [List.mem_cons, List.not_mem_nil, or_false, not_or] at hni
   omega
  rcases hi8 with rfl | rfl | rfl | rfl | rfl | rfl | rfl | rfl | rfl | rfl
  ·skip
   try dsimp only [upd, Nat.reduceBEq, cond_true, cond_false]
   refine wpOp_step rfl (fun K' hK' => ?_)
   go_simp
   exact hK' _ _ (hK _ _ (Below.refl _ _) rfl)
  ·skip
   obtain ⟨x, rfl⟩ := upd_of (show x 0 = .pointer (some ⟨w.heap.size, 1, none⟩) from hd 0 (by simp) (by decide))
   try dsimp only [upd, Nat.reduceBEq, cond_true, cond_false]
   have q := (h1.keep gv).2 1 _ rfl
   refine wpOp_step rfl (fun K' hK' => ?_)
   go_simp
   exact hK' _ _ (hK _ _ (Below.refl _ _) rfl)
  ·skip
   try dsimp only [upd, Nat.reduceBEq, cond_true, cond_false]
   refine wpOp_step rfl (fun K' hK' => ?_)
   go_simp
   exact hK' _ _ (hK _ _ (Below.refl _ _) rfl)
  ·skip
   obtain ⟨x, rfl⟩ := upd_of (show x 3 = .pointer (some ⟨w.heap.size, 3, none⟩) from hd 3 (by simp) (by decide))
   try dsimp only [upd, Nat.reduceBEq, cond_true, cond_false]
   have q := (h1.keep gv).2 3 _ rfl
   refine wpOp_step rfl (fun K' hK' => ?_)
   go_simp
   exact hK' _ _ (hK _ _ (Below.refl _ _) rfl)
  ·skip
   try dsimp only [upd, Nat.reduceBEq, cond_true, cond_false]
   refine wpOp_step rfl (fun K' hK' => ?_)
   go_simp
   exact hK' _ _ (hK _ _ (Below.refl _ _) rfl)
  ·skip
   obtain ⟨x, rfl⟩ := upd_of (show x 6 = .pointer (some ⟨w.heap.size, 4, none⟩) from hd 6 (by simp) (by decide))
   try dsimp only [upd, Nat.reduceBEq, cond_true, cond_false]
   have q := (h1.keep gv).2 4 _ rfl
   refine wpOp_step rfl (fun K' hK' => ?_)
   go_simp
   exact hK' _ _ (hK _ _ (Below.refl _ _) rfl)
  ·skip
   try dsimp only [upd, Nat.reduceBEq, cond_true, cond_false]
   refine wpOp_step rfl (fun K' hK' => ?_)
   go_simp
   exact hK' _ _ (hK _ _ (Below.refl _ _) rfl)
  ·skip
   obtain ⟨x, rfl⟩ := upd_of (show x 9 = .pointer (some ⟨w.heap.size, 2, none⟩) from hd 9 (by simp) (by decide))
   try dsimp only [upd, Nat.reduceBEq, cond_true, cond_false]
   have q := (h1.keep gv).2 2 _ rfl
   refine wpOp_step rfl (fun K' hK' => ?_)
   go_simp
   exact hK' _ _ (hK _ _ (Below.refl _ _) rfl)
  ·skip
   try dsimp only [upd, Nat.reduceBEq, cond_true, cond_false]
   refine wpOp_step rfl (fun K' hK' => ?_)
   go_simp
   exact hK' _ _ (hK _ _ (Below.refl _ _) rfl)
  ·skip
   obtain ⟨x, rfl⟩ := upd_of (show x 11 = .pointer (some ⟨w.heap.size, 5, none⟩) from hd 11 (by simp) (by decide))
   try dsimp only [upd, Nat.reduceBEq, cond_true, cond_false]
   have q := (h1.keep gv).2 5 _ rfl
   refine wpOp_step rfl (fun K' hK' => ?_)
   go_simp
   exact hK' _ _ (hK _ _ (Below.refl _ _) rfl)
 case pp1 =>
  rintro x v gv hd K hK
  obtain ⟨x, rfl⟩ := upd_of (show x 10 = .int .i64 hei from hd 10 (by simp) (by decide))
  obtain ⟨x, rfl⟩ := upd_of (show x 12 = .int .i64 slo from hd 12 (by simp) (by decide))
  try dsimp only [upd, Nat.reduceBEq, cond_true, cond_false]
  refine wpOp_step rfl (fun K' hK' => ?_)
  go_simp
  exact hK' _ _ (hK _ _ (Gr.al v (.cells #[.int .i64 hei, .int .i64 slo] 3)) ⟨v.heap.size, rfl, IRow.new' v 3 [hei, slo] (by simp) v.heap.size rfl _ (by simp)⟩ (fun b hb => by simp [hasB, blkOf] at hb; subst hb; simp))
 case c01 =>
  rintro x v gv hd K hK
  obtain ⟨x, rfl⟩ := upd_of (show x 1 = .slice pa 4 pc from hd 1 (by simp) (by decide))
  try dsimp only [upd, Nat.reduceBEq, cond_true, cond_false]
  refine wpOp_step rfl (fun K' hK' => ?_)
  go_simp
  refine (ints_owns [p0, p1, p2, p3] (by simp) (by simp) _ _ v (hp.grow gv)).mono ?_
  rintro e v' ⟨u, rfl, hg, ho, hbb⟩
  exact hK' _ _ (hK u v' hg (owns_base ho gv.size) hbb)
 case c11 =>
  rintro x v gv hd hG hW K hK
  obtain ⟨u, v', hrun, ho, hk, hbb⟩ := app_owns v U.heap.size (x 2) 4 _ hG gv.size _ [t0, t1] _ (ht.grow gv) (by simp) (by simp)
  try dsimp only [upd, Nat.reduceBEq, cond_true, cond_false]
  refine wpOp_append (Operand.tmp 10) (Operand.tmp 12) 22 rfl rfl rfl (x 2) (.slice ta 2 tc) u v' rfl (hd 4 (by simp) (by decide)) hrun (fun K' hK' => hK' _ _ (hK u v' hk ho hbb))
 case c21 =>
  rintro x v gv hd hG hW K hK
  obtain ⟨u, v', hrun, ho, hk, hbb⟩ := app_owns v U.heap.size (x 5) 6 _ hG gv.size _ [s0, s1] _ (hb.grow gv) (by simp) (by simp)
  try dsimp only [upd, Nat.reduceBEq, cond_true, cond_false]
  refine wpOp_append (Operand.tmp 13) (Operand.tmp 15) 22 rfl rfl rfl (x 5) (.slice ba 2 bc) u v' rfl (hd 7 (by simp) (by decide)) hrun (fun K' hK' => hK' _ _ (hK u v' hk ho hbb))
 case c31 =>
  rintro x v gv hd hG hF hW K hK
  obtain ⟨b9, e9, r9⟩ := hF
  obtain ⟨u, v', hrun, ho, hk, hbb⟩ := app_owns v U.heap.size (x 8) 8 _ hG gv.size _ [hei, slo] 2 r9 (by simp) (by simp)
  try dsimp only [upd, Nat.reduceBEq, cond_true, cond_false]
  refine wpOp_append (Operand.tmp 16) (Operand.tmp 21) 22 rfl rfl rfl (x 8) (.slice (some ⟨b9, 0, none⟩) 2 2) u v' rfl e9 hrun (fun K' hK' => hK' _ _ (hK u v' hk ho hbb))
 case fin1 =>
  rintro x v gv hd hG hW
  obtain ⟨ra1, rc1, e14, rr1⟩ := owns_row (enc := encI) (l := [p0, p1, p2, p3, t0, t1, s0, s1, hei, slo]) (fun _ => rfl) (by simp) hG
  obtain ⟨x, rfl⟩ := upd_of e14
  clear hG hW hd
  show wpList Try.prog _ _ (List.drop 15 _) (⟨#[_, _, _, _, _, _, _, _, x 0, x 1, x 2, x 3, x 4, x 5, x 6, x 7, x 8, x 9, x 10, x 11, x 12, x 13, .slice ra1 10 rc1, _, _, _, _, _, _, _, _, _, _, _, _, _, _, _, _, _, _, _, _, _, _, _, _, _, _, _, _, _, _, _, _, _, _, _, _, _, _, _, _, _, _, _, _, _, _, _, _, _, _], []⟩ : Act) v
  simp only [List.drop_succ_cons, List.drop_zero]
  go_upto_region 2 with fail
  refine wp_abs (fun Q => Gr U Q ∧ IRow Q ra1 [p0, p1, p2, p3, t0, t1, s0, s1, hei, slo]) ⟨gv, rr1⟩ ?_
  clear gv rr1 h1 hp ht hb
  rintro V ⟨gV, rr1⟩
  replace h2 := h2.keep gV
  replace hp' := hp'.grow gV
  replace ht' := ht'.grow gV
  replace hb' := hb'.grow gV
  replace gU := gU.tr gV
  clear gV
  refine (show (∀ sa : Nat → Value, Code.wp Try.prog _ _ ⟨#[sa 0, sa 1, sa 2, .pointer (some ⟨(w.heap.size + 1), 0, none⟩), .int .i64 0, .slice ra1 10 rc1, undef, undef, sa 8, sa 9, sa 10, sa 11, sa 12, sa 13, sa 14, sa 15, sa 16, sa 17, sa 18, sa 19, sa 20, sa 21, sa 22, undef, undef, undef, undef, undef, undef, undef, undef, undef, undef, undef, undef, undef, undef, undef, undef, undef, undef, undef, undef, undef, undef, undef, undef, undef, undef, undef, undef, undef, undef, undef, undef, undef, undef, undef, undef, undef, undef, undef, undef, undef, undef, undef, undef, undef, undef, undef, undef, undef, undef], []⟩ _) → _ from fun h => h ((fun l : List Value => fun i => l.getD i undef) [_, _, _, undef, undef, undef, undef, undef, _, _, _, _, _, _, _, _, _, _, _, _, _, _, _])) ?_
  intro sa
  dsimp only
  refine wp_region_chain 15 2 5 8 14 13 [(1, 0), (2, 1), (4, 3), (5, 2), (5, 4), (7, 6), (8, 5), (8, 7), (10, 9), (12, 11), (13, 10), (13, 12), (14, 8), (14, 13)] (fun x => ⟨#[sa 0, sa 1, sa 2, .pointer (some ⟨(w.heap.size + 1), 0, none⟩), .int .i64 0, .slice ra1 10 rc1, undef, undef, sa 8, sa 9, sa 10, sa 11, sa 12, sa 13, sa 14, sa 15, sa 16, sa 17, sa 18, sa 19, sa 20, sa 21, sa 22, x 0, x 1, x 2, x 3, x 4, x 5, x 6, x 7, x 8, x 9, x 10, x 11, x 12, x 13, x 14, undef, undef, undef, undef, undef, undef, undef, undef, undef, undef, undef, undef, undef, undef, undef, undef, undef, undef, undef, undef, undef, undef, undef, undef, undef, undef, undef, undef, undef, undef, undef, undef, undef, undef, undef], []⟩) (fun _ => undef) (fun j u => u = ([.pointer (some ⟨(w.heap.size + 1), 1, none⟩), .slice pa' 4 pc', undef, .pointer (some ⟨(w.heap.size + 1), 3, none⟩), .slice ta' 2 tc', undef, .pointer (some ⟨(w.heap.size + 1), 4, none⟩), .slice ba' 2 bc', undef, .pointer (some ⟨(w.heap.size + 1), 2, none⟩), .int .i64 hei', .pointer (some ⟨(w.heap.size + 1), 5, none⟩), .int .i64 slo', undef, undef] : List Value).getD j undef) (fun v u => ∃ b, u = .slice (some ⟨b, 0, none⟩) 2 2 ∧ IRow v (some ⟨b, 0, none⟩) [hei', slo']) (fun v u => v.ownsRow V.heap.size 3 1 u 4 (([q0, q1, q2, q3].map (fun n => Value.int .i64 n)))) (fun v u => v.ownsRow V.heap.size 3 1 u 6 (([q0, q1, q2, q3].map (fun n => Value.int .i64 n)) ++ ([e0, e1].map (fun n => Value.int .i64 n)))) (fun v u => v.ownsRow V.heap.size 3 1 u 8 ((([q0, q1, q2, q3].map (fun n => Value.int .i64 n)) ++ ([e0, e1].map (fun n => Value.int .i64 n))) ++ ([z0, z1].map (fun n => Value.int .i64 n)))) (fun v u => v.ownsRow V.heap.size 3 1 u 10 (((([q0, q1, q2, q3].map (fun n => Value.int .i64 n)) ++ ([e0, e1].map (fun n => Value.int .i64 n))) ++ ([z0, z1].map (fun n => Value.int .i64 n))) ++ ([hei', slo'].map (fun n => Value.int .i64 n)))) (by rfl) (by kernel_rfl) (by kernel_rfl) (by kernel_rfl) (by decide) (by decide) (by decide) (fun v v' x g h => owns_keep h g) (fun v v' x g h => owns_keep h g) (fun v v' x g h => owns_keep h g) (fun v v' x g h => owns_keep h g) (fun v v' x g ⟨b, h, r⟩ => ⟨b, h, r.grow g⟩) (fun v v' u Z k hz ⟨b, h, r⟩ => ⟨b, h, RowOf.kx r k (fun b2 off e2 hz2 => by cases e2; exact hz _ (by rw [h]; simp [hasB, blkOf]) hz2)⟩) ?st2 ?pp2 ?c02 ?c12 ?c22 ?c32 ?fin2
  case st2 =>
   rintro i hi hni x v gv hd K hK
   have hi8 : i = 0 ∨ i = 1 ∨ i = 3 ∨ i = 4 ∨ i = 6 ∨ i = 7 ∨ i = 9 ∨ i = 10 ∨ i = 11 ∨ i = 12 := by
    simp only [List.mem_cons, List.not_mem_nil, or_false, not_or] at hni
    omega
   rcases hi8 with rfl | rfl | rfl | rfl | rfl | rfl | rfl | rfl | rfl | rfl
   ·skip
    try dsimp only [upd, Nat.reduceBEq, cond_true, cond_false]
    refine wpOp_step rfl (fun K' hK' => ?_)
    go_simp
    exact hK' _ _ (hK _ _ (Below.refl _ _) rfl)
   ·skip
    obtain ⟨x, rfl⟩ := upd_of (show x 0 = .pointer (some ⟨(w.heap.size + 1), 1, none⟩) from hd 0 (by simp) (by decide))
    try dsimp only [upd, Nat.reduceBEq, cond_true, cond_false]
    have q := (h2.keep gv).2 1 _ rfl
    refine wpOp_step rfl (fun K' hK' => ?_)
    go_simp
    exact hK' _ _ (hK _ _ (Below.refl _ _) rfl)
   ·skip
    try dsimp only [upd, Nat.reduceBEq, cond_true, cond_false]
    refine wpOp_step rfl (fun K' hK' => ?_)
    go_simp
    exact hK' _ _ (hK _ _ (Below.refl _ _) rfl)
   ·skip
    obtain ⟨x, rfl⟩ := upd_of (show x 3 = .pointer (some ⟨(w.heap.size + 1), 3, none⟩) from hd 3 (by simp) (by decide))
    try dsimp only [upd, Nat.reduceBEq, cond_true, cond_false]
    have q := (h2.keep gv).2 3 _ rfl
    refine wpOp_step rfl (fun K' hK' => ?_)
    go_simp
    exact hK' _ _ (hK _ _ (Below.refl _ _) rfl)
   ·skip
    try dsimp only [upd, Nat.reduceBEq, cond_true, cond_false]
    refine wpOp_step rfl (fun K' hK' => ?_)
    go_simp
    exact hK' _ _ (hK _ _ (Below.refl _ _) rfl)
   ·skip
    obtain ⟨x, rfl⟩ := upd_of (show x 6 = .pointer (some ⟨(w.heap.size + 1), 4, none⟩) from hd 6 (by simp) (by decide))
    try dsimp only [upd, Nat.reduceBEq, cond_true, cond_false]
    have q := (h2.keep gv).2 4 _ rfl
    refine wpOp_step rfl (fun K' hK' => ?_)
    go_simp
    exact hK' _ _ (hK _ _ (Below.refl _ _) rfl)
   ·skip
    try dsimp only [upd, Nat.reduceBEq, cond_true, cond_false]
    refine wpOp_step rfl (fun K' hK' => ?_)
    go_simp
    exact hK' _ _ (hK _ _ (Below.refl _ _) rfl)
   ·skip
    obtain ⟨x, rfl⟩ := upd_of (show x 9 = .pointer (some ⟨(w.heap.size + 1), 2, none⟩) from hd 9 (by simp) (by decide))
    try dsimp only [upd, Nat.reduceBEq, cond_true, cond_false]
    have q := (h2.keep gv).2 2 _ rfl
    refine wpOp_step rfl (fun K' hK' => ?_)
    go_simp
    exact hK' _ _ (hK _ _ (Below.refl _ _) rfl)
   ·skip
    try dsimp only [upd, Nat.reduceBEq, cond_true, cond_false]
    refine wpOp_step rfl (fun K' hK' => ?_)
    go_simp
    exact hK' _ _ (hK _ _ (Below.refl _ _) rfl)
   ·skip
    obtain ⟨x, rfl⟩ := upd_of (show x 11 = .pointer (some ⟨(w.heap.size + 1), 5, none⟩) from hd 11 (by simp) (by decide))
    try dsimp only [upd, Nat.reduceBEq, cond_true, cond_false]
    have q := (h2.keep gv).2 5 _ rfl
    refine wpOp_step rfl (fun K' hK' => ?_)
    go_simp
    exact hK' _ _ (hK _ _ (Below.refl _ _) rfl)
  case pp2 =>
   rintro x v gv hd K hK
   obtain ⟨x, rfl⟩ := upd_of (show x 10 = .int .i64 hei' from hd 10 (by simp) (by decide))
   obtain ⟨x, rfl⟩ := upd_of (show x 12 = .int .i64 slo' from hd 12 (by simp) (by decide))
   try dsimp only [upd, Nat.reduceBEq, cond_true, cond_false]
   refine wpOp_step rfl (fun K' hK' => ?_)
   go_simp
   exact hK' _ _ (hK _ _ (Gr.al v (.cells #[.int .i64 hei', .int .i64 slo'] 3)) ⟨v.heap.size, rfl, IRow.new' v 3 [hei', slo'] (by simp) v.heap.size rfl _ (by simp)⟩ (fun b hb => by simp [hasB, blkOf] at hb; subst hb; simp))
  case c02 =>
   rintro x v gv hd K hK
   obtain ⟨x, rfl⟩ := upd_of (show x 1 = .slice pa' 4 pc' from hd 1 (by simp) (by decide))
   try dsimp only [upd, Nat.reduceBEq, cond_true, cond_false]
   refine wpOp_step rfl (fun K' hK' => ?_)
   go_simp
   refine (ints_owns [q0, q1, q2, q3] (by simp) (by simp) _ _ v (hp'.grow gv)).mono ?_
   rintro e v' ⟨u, rfl, hg, ho, hbb⟩
   exact hK' _ _ (hK u v' hg (owns_base ho gv.size) hbb)
  case c12 =>
   rintro x v gv hd hG hW K hK
   obtain ⟨u, v', hrun, ho, hk, hbb⟩ := app_owns v V.heap.size (x 2) 4 _ hG gv.size _ [e0, e1] _ (ht'.grow gv) (by simp) (by simp)
   try dsimp only [upd, Nat.reduceBEq, cond_true, cond_false]
   refine wpOp_append (Operand.tmp 25) (Operand.tmp 27) 22 rfl rfl rfl (x 2) (.slice ta' 2 tc') u v' rfl (hd 4 (by simp) (by decide)) hrun (fun K' hK' => hK' _ _ (hK u v' hk ho hbb))
  case c22 =>
   rintro x v gv hd hG hW K hK
   obtain ⟨u, v', hrun, ho, hk, hbb⟩ := app_owns v V.heap.size (x 5) 6 _ hG gv.size _ [z0, z1] _ (hb'.grow gv) (by simp) (by simp)
   try dsimp only [upd, Nat.reduceBEq, cond_true, cond_false]
   refine wpOp_append (Operand.tmp 28) (Operand.tmp 30) 22 rfl rfl rfl (x 5) (.slice ba' 2 bc') u v' rfl (hd 7 (by simp) (by decide)) hrun (fun K' hK' => hK' _ _ (hK u v' hk ho hbb))
  case c32 =>
   rintro x v gv hd hG hF hW K hK
   obtain ⟨b9, e9, r9⟩ := hF
   obtain ⟨u, v', hrun, ho, hk, hbb⟩ := app_owns v V.heap.size (x 8) 8 _ hG gv.size _ [hei', slo'] 2 r9 (by simp) (by simp)
   try dsimp only [upd, Nat.reduceBEq, cond_true, cond_false]
   refine wpOp_append (Operand.tmp 31) (Operand.tmp 36) 22 rfl rfl rfl (x 8) (.slice (some ⟨b9, 0, none⟩) 2 2) u v' rfl e9 hrun (fun K' hK' => hK' _ _ (hK u v' hk ho hbb))
  case fin2 =>
   rintro x v gv hd hG hW
   obtain ⟨ra2, rc2, e14, rr2⟩ := owns_row (enc := encI) (l := [q0, q1, q2, q3, e0, e1, z0, z1, hei', slo']) (fun _ => rfl) (by simp) hG
   obtain ⟨x, rfl⟩ := upd_of e14
   clear hG hW hd
   show wpList Try.prog _ _ (List.drop 15 _) (⟨#[_, _, _, _, _, _, _, _, _, _, _, _, _, _, _, _, _, _, _, _, _, _, _, x 0, x 1, x 2, x 3, x 4, x 5, x 6, x 7, x 8, x 9, x 10, x 11, x 12, x 13, .slice ra2 10 rc2, _, _, _, _, _, _, _, _, _, _, _, _, _, _, _, _, _, _, _, _, _, _, _, _, _, _, _, _, _, _, _, _, _, _, _], []⟩ : Act) v
   simp only [List.drop_succ_cons, List.drop_zero]
   go_upto_region 4 with fail
   have LX := Lib.hid (show X.length = 10 by rw [HX.out]; rfl)
   have LY := Lib.hid (show Y.length = 10 by rw [HY.out]; rfl)
   have hn := HN.out
   rw [← HX.out, ← HY.out] at hn
   rw [← HX.out] at rr1
   rw [← HY.out] at rr2
   refine wp_abs (fun Q => Gr V Q ∧ IRow Q ra1 X ∧ IRow Q ra2 Y) ⟨gv, rr1.grow gv, rr2⟩ ?_
   clear gv rr1 rr2 h2 hp' ht' hb'
   rintro wk ⟨gQ, rr1, rr2⟩
   replace gU := gU.tr gQ
   clear gQ
   have tlt : (10 : Int) - 10 = 0 := rfl
   go_wp2
   go_loopw [7] (fun x wr => Hid (∃ i : Nat, i ≤ 10 ∧ x = .int .i64 i ∧ X.take i = Y.take i ∧ Gr wk wr)) (fun x _ => 10 - (intOf x).toNat)
   case atStart => exact Lib.hid ⟨0, by omega, rfl, rfl, Below.refl _ _⟩
   case round =>
    obtain ⟨i, hi, rfl, htk, gW⟩ := hrel.out
    clear hrel
    refine wp_abs (fun Z => Gr wk Z) gW ?_
    clear gW
    rintro wz gW
    by_cases hlt : i < 10
    case neg =>
     have e : i = 10 := by omega
     have HE := Lib.hid (show 0 = cmpL X Y by
      have e2 : X = Y := by
       have a := List.take_of_length_le (show X.length ≤ i by rw [LX.out]; omega)
       have b := List.take_of_length_le (show Y.length ≤ i by rw [LY.out]; omega)
       rw [← a, ← b, htk]
      rw [e2, cmpL_self])
     clear htk hi e
     go_wp2
     go_ret
     exact ⟨ret_int HE.out, gU.tr gW⟩
    case pos =>
     obtain ⟨a, ha⟩ : ∃ a, X[i]? = some a := ⟨X[i]'(by rw [LX.out]; exact hlt), by simp⟩
     obtain ⟨b, hb⟩ : ∃ b, Y[i]? = some b := ⟨Y[i]'(by rw [LY.out]; exact hlt), by simp⟩
     obtain ⟨ab0, ab1⟩ := in_at hn.1 ha
     obtain ⟨bb0, bb1⟩ := in_at hn.2 hb
     obtain ⟨ga, oa, xa, _, ca⟩ := IRow.get (rr1.grow gW) ha
     obtain ⟨gb, ob, xb, _, cb⟩ := IRow.get (rr2.grow gW) hb
     subst xa xb
     by_cases hab : a = b
     ·have HT := Lib.hid (show X.take (i + 1) = Y.take (i + 1) by rw [List.take_add_one, List.take_add_one, htk, ha, hb, hab])
      have hne : (a != b) = false := by simp [hab]
      clear htk ha hb
      go_wp2
      go_quiet (fail)
      go_wp2
      go_roundw
      case rel => exact Lib.hid ⟨i + 1, by omega, by go_num, HT.out, gW.tr (Gr.drewN (Below.refl _ _) _)⟩
      case measure => simp [intOf]; omega
     ·have HE := Lib.hid (show a - b = cmpL X Y from (cmpL_at (by rw [LX.out, LY.out]) htk ha hb hab).symm)
      have hne : (a != b) = true := by simp [hab]
      have wab : IntKind.i64.wrap (a - b) = a - b := IntWalk.i64_in _ (by omega)
      clear htk ha hb
      go_wp2
      go_quiet (fail)
      go_wp2
      go_quiet (fail)
      go_wp2
      go_ret
      exact ⟨ret_int HE.out, gU.tr (gW.tr (Gr.drewN (Gr.drewN (Below.refl _ _) _) _))⟩

end Go.Proofs.Ytoihnilgmdcndaa

namespace Go.Proofs.Ytoihnilgmdcndaa
set_option linter.unusedVariables false
set_option linter.unusedSimpArgs false
open Go.RowKit

/-- A blank's numbers. -/
def drOf (p0 p1 p2 p3 t0 t1 s0 s1 hei slo : Int) : Dr := ⟨[p0, p1, p2, p3], [t0, t1], [s0, s1], hei, slo⟩

theorem drOf_L (p0 p1 p2 p3 t0 t1 s0 s1 hei slo : Int) : DrL (drOf p0 p1 p2 p3 t0 t1 s0 s1 hei slo) := ⟨rfl, rfl, rfl⟩

theorem dr_letters {d : Dr} (h : DrL d) : ∃ p0 p1 p2 p3 t0 t1 s0 s1 hei slo, d = drOf p0 p1 p2 p3 t0 t1 s0 s1 hei slo := by
 obtain ⟨p, t, b, hei, slo⟩ := d
 obtain ⟨h1, h2, h3⟩ := h
 simp only at h1 h2 h3
 match p, h1, t, h2, b, h3 with
 | [p0, p1, p2, p3], _, [t0, t1], _, [s0, s1], _ => exact ⟨p0, p1, p2, p3, t0, t1, s0, s1, hei, slo, rfl⟩

/-- Numbers of a valid blank, but for the tab. -/
def NumOk (p0 p1 p2 p3 t0 t1 s0 s1 hei slo : Int) (o : Bool) : Prop :=
 (1 ≤ p0 ∧ p0 ≤ 3000) ∧ (1 ≤ p1 ∧ p1 ≤ 3000) ∧ (1 ≤ p2 ∧ p2 ≤ 3000) ∧ (1 ≤ p3 ∧ p3 ≤ 3000) ∧ (0 ≤ t0 ∧ t0 ≤ 3000) ∧ (0 ≤ t1 ∧ t1 ≤ 3000) ∧ (0 ≤ s0 ∧ s0 ≤ 3000) ∧ (0 ≤ s1 ∧ s1 ≤ 3000) ∧ (1 ≤ hei ∧ hei ≤ 3000) ∧ (0 ≤ slo ∧ slo ≤ 20) ∧ (o = true → t0 = 0 ∧ t1 = 0)

theorem whole_pn (o : Bool) {i : Nat} (hi : i < 4) : (wholeR o).pn i = ⟨1, 3000⟩ := by
 match i, hi with
 | 0, _ => rfl
 | 1, _ => rfl
 | 2, _ => rfl
 | 3, _ => rfl

theorem whole_fl (o : Bool) {k : Nat} (h5 : 5 ≤ k) (h8 : k ≤ 8) : (wholeR o).fl k = if k < 7 ∧ o = true then ⟨0, 0⟩ else ⟨0, 3000⟩ := by
 have hk : k = 5 ∨ k = 6 ∨ k = 7 ∨ k = 8 := by omega
 rcases hk with rfl | rfl | rfl | rfl <;> cases o <;> rfl

theorem whole_he (o : Bool) : (wholeR o).he = ⟨1, 3000⟩ ∧ (wholeR o).sl = ⟨0, 20⟩ := ⟨rfl, rfl⟩

/-- A valid blank that closes lies in the room of all blanks. -/
theorem fea_of {p0 p1 p2 p3 t0 t1 s0 s1 hei slo : Int} {o : Bool} {W : Wi} {cl ch : Int} (hc : cl ≤ ch) (N : NumOk p0 p1 p2 p3 t0 t1 s0 s1 hei slo o) (H : ∀ k, k < 10 → Holding (hL o W (drOf p0 p1 p2 p3 t0 t1 s0 s1 hei slo)) cl ch k) : Fea (wholeR o) W cl ch (drOf p0 p1 p2 p3 t0 t1 s0 s1 hei slo) := by
 obtain ⟨n0, n1, n2, n3, n4, n5, n6, n7, n8, n9, n10⟩ := N
 refine ⟨fun i hi => ?_, fun k h5 h8 => ?_, ?_, ?_, fun k hk => (okAll_iff hc).2 (H k hk)⟩
 ·rw [whole_pn o hi]
  match i, hi with
  | 0, _ => exact n0
  | 1, _ => exact n1
  | 2, _ => exact n2
  | 3, _ => exact n3
 ·rw [whole_fl o h5 h8]
  have hk : k = 5 ∨ k = 6 ∨ k = 7 ∨ k = 8 := by omega
  rcases hk with rfl | rfl | rfl | rfl
  ·cases o with
   | true => obtain ⟨rfl, rfl⟩ := n10 rfl; exact ⟨Int.le_refl _, Int.le_refl _⟩
   | false => exact n4
  ·cases o with
   | true => obtain ⟨rfl, rfl⟩ := n10 rfl; exact ⟨Int.le_refl _, Int.le_refl _⟩
   | false => exact n5
  ·cases o <;> exact n6
  ·cases o <;> exact n7
 ·exact n8
 ·exact n9

/-- What lies in the room of all blanks is valid. -/
theorem num_of {p0 p1 p2 p3 t0 t1 s0 s1 hei slo : Int} {o : Bool} {W : Wi} {cl ch : Int} (F : Fea (wholeR o) W cl ch (drOf p0 p1 p2 p3 t0 t1 s0 s1 hei slo)) : NumOk p0 p1 p2 p3 t0 t1 s0 s1 hei slo o := by
 have q0 := F.pan 0 (by omega)
 have q1 := F.pan 1 (by omega)
 have q2 := F.pan 2 (by omega)
 have q3 := F.pan 3 (by omega)
 rw [whole_pn o (by omega)] at q0 q1 q2 q3
 have f5 := F.flap 5 (by omega) (by omega)
 have f6 := F.flap 6 (by omega) (by omega)
 have f7 := F.flap 7 (by omega) (by omega)
 have f8 := F.flap 8 (by omega) (by omega)
 rw [whole_fl o (by omega) (by omega)] at f5 f6 f7 f8
 have h5 : (drOf p0 p1 p2 p3 t0 t1 s0 s1 hei slo).flap 5 = t0 := rfl
 have h6 : (drOf p0 p1 p2 p3 t0 t1 s0 s1 hei slo).flap 6 = t1 := rfl
 have h7 : (drOf p0 p1 p2 p3 t0 t1 s0 s1 hei slo).flap 7 = s0 := rfl
 have h8 : (drOf p0 p1 p2 p3 t0 t1 s0 s1 hei slo).flap 8 = s1 := rfl
 rw [h5] at f5
 rw [h6] at f6
 rw [h7] at f7
 rw [h8] at f8
 cases o with
 | true =>
  simp at f5 f6 f7 f8
  exact ⟨q0, q1, q2, q3, by omega, by omega, f7, f8, F.hei, F.slo, fun _ => by omega⟩
 | false =>
  simp at f5 f6 f7 f8
  exact ⟨q0, q1, q2, q3, f5, f6, f7, f8, F.hei, F.slo, fun h => by cases h⟩

/-- Not greater, panel by panel. -/
def LeDr (m0 m1 m2 m3 u0 u1 v0 v1 mh ms p0 p1 p2 p3 t0 t1 s0 s1 hei slo : Int) : Prop :=
 m0 ≤ p0 ∧ m1 ≤ p1 ∧ m2 ≤ p2 ∧ m3 ≤ p3 ∧ (m0 = p0 → u1 ≤ t1 ∧ v1 ≤ s1) ∧ (m1 = p1 → u0 ≤ t0 ∧ v0 ≤ s0) ∧ mh ≤ hei ∧ ms ≤ slo

theorem cmp_le {m0 m1 m2 m3 u0 u1 v0 v1 mh ms p0 p1 p2 p3 t0 t1 s0 s1 hei slo : Int} (h : LeDr m0 m1 m2 m3 u0 u1 v0 v1 mh ms p0 p1 p2 p3 t0 t1 s0 s1 hei slo) :
  cmpL [m0, m1, m2, m3, u0, u1, v0, v1, mh, ms] [p0, p1, p2, p3, t0, t1, s0, s1, hei, slo] ≤ 0 := by
 obtain ⟨h0, h1, h2, h3, h4, h5, h6, h7⟩ := h
 simp only [cmpL]
 by_cases e0 : m0 = p0
 ·by_cases e1 : m1 = p1
  ·obtain ⟨a, b⟩ := h4 e0
   obtain ⟨c, d⟩ := h5 e1
   repeat' split
   all_goals omega
  ·rw [if_pos e0, if_neg e1]; omega
 ·rw [if_neg e0]; omega

/-- The search ends well if some blank closes; what it finds is valid, closes, and is not greater than any that closes. -/
theorem least_found {p0 p1 p2 p3 t0 t1 s0 s1 hei slo : Int} {o : Bool} {W : Wi} {cl ch : Int} (hc : cl ≤ ch) (F : Fea (wholeR o) W cl ch (drOf p0 p1 p2 p3 t0 t1 s0 s1 hei slo)) :
  ∃ m0 m1 m2 m3 u0 u1 v0 v1 mh ms, (smallD (wholeR o) W cl ch).1 = drOf m0 m1 m2 m3 u0 u1 v0 v1 mh ms ∧ (smallD (wholeR o) W cl ch).2 = 10 ∧ Fea (wholeR o) W cl ch (drOf m0 m1 m2 m3 u0 u1 v0 v1 mh ms) ∧
   ∀ p0 p1 p2 p3 t0 t1 s0 s1 hei slo, Fea (wholeR o) W cl ch (drOf p0 p1 p2 p3 t0 t1 s0 s1 hei slo) → LeDr m0 m1 m2 m3 u0 u1 v0 v1 mh ms p0 p1 p2 p3 t0 t1 s0 s1 hei slo := by
 obtain ⟨e10, _⟩ := small_least hc (drOf_L _ _ _ _ _ _ _ _ _ _) F
 obtain ⟨L, Fd⟩ := small_closes e10
 obtain ⟨m0, m1, m2, m3, u0, u1, v0, v1, mh, ms, e⟩ := dr_letters L
 rw [e] at Fd
 refine ⟨m0, m1, m2, m3, u0, u1, v0, v1, mh, ms, e, e10, Fd, fun p0 p1 p2 p3 t0 t1 s0 s1 hei slo G => ?_⟩
 obtain ⟨_, hp, hh, hs⟩ := small_least hc (drOf_L _ _ _ _ _ _ _ _ _ _) G
 rw [e] at hp hh hs
 refine ⟨(hp 0 (by omega)).1, (hp 1 (by omega)).1, (hp 2 (by omega)).1, (hp 3 (by omega)).1, fun q => ⟨?_, ?_⟩, fun q => ⟨?_, ?_⟩, hh, hs⟩
 ·exact (hp 0 (by omega)).2 q 6 (by omega) (by omega) (by omega)
 ·exact (hp 0 (by omega)).2 q 8 (by omega) (by omega) (by omega)
 ·exact (hp 1 (by omega)).2 q 5 (by omega) (by omega) (by omega)
 ·exact (hp 1 (by omega)).2 q 7 (by omega) (by omega) (by omega)

/-- With fewer calipers what closes closes. -/
theorem Fea.fewer {R : Rm} {W : Wi} {cl ch c d : Int} {x : Dr} (F : Fea R W cl ch x) (h0 : cl ≤ c) (h1 : c ≤ d) (h2 : d ≤ ch) : Fea R W c d x :=
 ⟨F.pan, F.flap, F.hei, F.slo, fun k hk => by
  have := (okAll_iff (show cl ≤ ch by omega)).1 (F.ok k hk)
  exact (okAll_iff h1).2 ⟨by omega, by omega⟩⟩

end Go.Proofs.Ytoihnilgmdcndaa

namespace Go.Proofs.Ytoihnilgmdcndaa
set_option linter.unusedVariables false
set_option linter.unusedSimpArgs false
open Go.RowKit

set_option maxRecDepth 100000 in
set_option maxHeartbeats 4000000 in
theorem close_err (tab hei slo : Int) (pan top bot : List Int) (pa ta ba : Option Addr) (pc tc bc : Nat) (opn : Bool) (W : Wi) (cl ch e1 E : Int) (he : checkE tab hei slo pan top bot opn = e1) (hE : firstE [e1, W.err, measE [⟨cl, ch⟩]] = E) (h0 : E ≠ 0) (w : World) (hp : IRow w pa pan) (ht : IRow w ta top) (hb : IRow w ba bot) :
  Calls Try.prog 42 #[.agg #[.int .i64 tab, .slice pa pan.length pc, .int .i64 hei, .slice ta top.length tc, .slice ba bot.length bc, .int .i64 slo, .bool opn], .agg #[.int .i64 W.ll, .int .i64 W.lh, .int .i64 W.wl, .int .i64 W.wh, .int .i64 W.hl, .int .i64 W.hh, .int .i64 W.ol, .int .i64 W.oh, .int .i64 W.il, .int .i64 W.ih, .bool W.wo], .agg #[.int .i64 cl, .int .i64 ch]] w fun e w' => e = .returned (.tuple #[.slice none 0 0, .int .i64 E]) ∧ Gr w w' := by
 have gg := ((Gr.al w (.cells #[.int .i64 tab, .slice pa pan.length pc, .int .i64 hei, .slice ta top.length tc, .slice ba bot.length bc, .int .i64 slo, .bool opn] 24)).tr (Gr.al _ (.cells #[.int .i64 W.ll, .int .i64 W.lh, .int .i64 W.wl, .int .i64 W.wh, .int .i64 W.hl, .int .i64 W.hh, .int .i64 W.ol, .int .i64 W.oh, .int .i64 W.il, .int .i64 W.ih, .bool W.wo] 48))).tr (Gr.al _ (.cells #[.int .i64 cl, .int .i64 ch] 37))
 have h1 := (Box.new w [.int .i64 tab, .slice pa pan.length pc, .int .i64 hei, .slice ta top.length tc, .slice ba bot.length bc, .int .i64 slo, .bool opn] 24 w.heap.size rfl).keep ((Gr.al _ (.cells #[.int .i64 W.ll, .int .i64 W.lh, .int .i64 W.wl, .int .i64 W.wh, .int .i64 W.hl, .int .i64 W.hh, .int .i64 W.ol, .int .i64 W.oh, .int .i64 W.il, .int .i64 W.ih, .bool W.wo] 48)).tr (Gr.al _ (.cells #[.int .i64 cl, .int .i64 ch] 37)))
 have h2 := (Box.new (w.alloc (.cells #[.int .i64 tab, .slice pa pan.length pc, .int .i64 hei, .slice ta top.length tc, .slice ba bot.length bc, .int .i64 slo, .bool opn] 24)) [.int .i64 W.ll, .int .i64 W.lh, .int .i64 W.wl, .int .i64 W.wh, .int .i64 W.hl, .int .i64 W.hh, .int .i64 W.ol, .int .i64 W.oh, .int .i64 W.il, .int .i64 W.ih, .bool W.wo] 48 (w.heap.size + 1) (by simp)).keep (Gr.al _ (.cells #[.int .i64 cl, .int .i64 ch] 37))
 have h3 := Box.new ((w.alloc (.cells #[.int .i64 tab, .slice pa pan.length pc, .int .i64 hei, .slice ta top.length tc, .slice ba bot.length bc, .int .i64 slo, .bool opn] 24)).alloc (.cells #[.int .i64 W.ll, .int .i64 W.lh, .int .i64 W.wl, .int .i64 W.wh, .int .i64 W.hl, .int .i64 W.hh, .int .i64 W.ol, .int .i64 W.oh, .int .i64 W.il, .int .i64 W.ih, .bool W.wo] 48)) [.int .i64 cl, .int .i64 ch] 37 (w.heap.size + 1 + 1) (by simp)
 obtain ⟨e2, he2⟩ : ∃ e, W.err = e := ⟨_, rfl⟩
 obtain ⟨e3, he3⟩ : ∃ e, measE [⟨cl, ch⟩] = e := ⟨_, rfl⟩
 have cB := fun v (k1 : IRow v pa pan) (k2 : IRow v ta top) (k3 : IRow v ba bot) => blank_any tab hei slo pan top bot pa ta ba pc tc bc opn v k1 k2 k3
 rw [he] at cB
 have cW := fun v => wiErr_any W v
 rw [he2] at cW
 have cM := fun a v (k1 : SRow v a [⟨cl, ch⟩]) => measured_one cl ch a 1 v k1
 rw [he3] at cM
 have hE' : firstE [e1, e2, e3] = E := by
  rw [← hE, he2, he3]
 have cE := fun a v (k1 : IRow v a [e1, e2, e3]) => first_3 e1 e2 e3 a 3 v k1
 rw [hE'] at cE
 have CB := Lib.hid cB
 have CW := Lib.hid cW
 have CM := Lib.hid cM
 have CE := Lib.hid cE
 have HP := Lib.hid hp
 have HT := Lib.hid ht
 have HB := Lib.hid hb
 have h0' : (E != 0) = true := by rw [bne_iff_ne]; exact h0
 clear cB cM cW cE he he2 he3 hE hE' hp ht hb h0
 go_enter Try.func42, Try.ntmps42
 go_upto_region 1 with fail
 refine wp_abs (fun U => Gr w U ∧ Box U w.heap.size [.int .i64 tab, .slice pa pan.length pc, .int .i64 hei, .slice ta top.length tc, .slice ba bot.length bc, .int .i64 slo, .bool opn] ∧ Box U (w.heap.size + 1) [.int .i64 W.ll, .int .i64 W.lh, .int .i64 W.wl, .int .i64 W.wh, .int .i64 W.hl, .int .i64 W.hh, .int .i64 W.ol, .int .i64 W.oh, .int .i64 W.il, .int .i64 W.ih, .bool W.wo] ∧ Box U (w.heap.size + 1 + 1) [.int .i64 cl, .int .i64 ch]) ⟨gg, h1, h2, h3⟩ ?_
 clear gg h1 h2 h3
 rintro U ⟨gU, h1, h2, h3⟩
 refine wp_region_facts 9 [(1, 0), (3, 2), (5, 4), (6, 5), (7, 1), (7, 3), (7, 6), (8, 7)] (fun x => ⟨#[.agg #[.int .i64 tab, .slice pa pan.length pc, .int .i64 hei, .slice ta top.length tc, .slice ba bot.length bc, .int .i64 slo, .bool opn], .agg #[.int .i64 W.ll, .int .i64 W.lh, .int .i64 W.wl, .int .i64 W.wh, .int .i64 W.hl, .int .i64 W.hh, .int .i64 W.ol, .int .i64 W.oh, .int .i64 W.il, .int .i64 W.ih, .bool W.wo], .agg #[.int .i64 cl, .int .i64 ch], .pointer (some ⟨w.heap.size, 0, none⟩), .pointer (some ⟨(w.heap.size + 1), 0, none⟩), .pointer (some ⟨(w.heap.size + 1 + 1), 0, none⟩), .slice none 0 0, .int .i64 0, undef, undef, undef, undef, undef, undef, x 0, x 1, x 2, x 3, x 4, x 5, x 6, x 7, x 8, undef, undef, undef, undef, undef, undef, undef, undef, undef, undef, undef, undef, undef, undef, undef, undef, undef, undef, undef, undef, undef, undef, undef, undef, undef, undef, undef], []⟩) (fun _ => undef) [fun _ x => x = .agg #[.int .i64 tab, .slice pa pan.length pc, .int .i64 hei, .slice ta top.length tc, .slice ba bot.length bc, .int .i64 slo, .bool opn], fun _ x => x = .int .i64 e1, fun _ x => x = .agg #[.int .i64 W.ll, .int .i64 W.lh, .int .i64 W.wl, .int .i64 W.wh, .int .i64 W.hl, .int .i64 W.hh, .int .i64 W.ol, .int .i64 W.oh, .int .i64 W.il, .int .i64 W.ih, .bool W.wo], fun _ x => x = .int .i64 e2, fun _ x => x = .agg #[.int .i64 cl, .int .i64 ch], fun v x => ∃ a, x = .slice a 1 1 ∧ SRow v a [⟨cl, ch⟩], fun _ x => x = .int .i64 e3, fun v x => ∃ a, x = .slice a 3 3 ∧ IRow v a [e1, e2, e3], fun _ x => x = .int .i64 E] (by rfl) (by kernel_rfl) (by kernel_rfl) (by kernel_rfl) (stays_cons (Stays.eq _) (stays_cons (Stays.eq _) (stays_cons (Stays.eq _) (stays_cons (Stays.eq _) (stays_cons (Stays.eq _) (stays_cons ((show Stays (fun v x => ∃ a, x = .slice a 1 1 ∧ SRow v a [⟨cl, ch⟩]) from fun v v' x g ⟨a, e, r⟩ => ⟨a, e, r.grow g⟩)) (stays_cons (Stays.eq _) (stays_cons ((show Stays (fun v x => ∃ a, x = .slice a 3 3 ∧ IRow v a [e1, e2, e3]) from fun v v' x g ⟨a, e, r⟩ => ⟨a, e, r.grow g⟩)) (stays_cons (Stays.eq _) stays_nil))))))))) ?step1 ?fin1
 case step1 =>
  rintro i hi x v gv hd K hK
  have hi8 : i = 0 ∨ i = 1 ∨ i = 2 ∨ i = 3 ∨ i = 4 ∨ i = 5 ∨ i = 6 ∨ i = 7 ∨ i = 8 := by omega
  rcases hi8 with rfl | rfl | rfl | rfl | rfl | rfl | rfl | rfl | rfl
  ·try dsimp only [upd, Nat.reduceBEq, cond_true, cond_false]
   refine wpOp_step rfl (fun K' hK' => ?_)
   rw [if_pos (by rfl)]
   refine wp_load_mid 24 _ rfl w.heap.size 0 (by rfl) [.int .i64 tab, .slice pa pan.length pc, .int .i64 hei, .slice ta top.length tc, .slice ba bot.length bc, .int .i64 slo, .bool opn] _ (fun j u hu => by rw [Nat.zero_add]; exact (h1.keep gv).2 j u hu) Try.underlying24 rfl (by kernel_rfl) ?_
   exact hK' _ _ (hK _ _ (Below.refl _ _) (at_of rfl (rfl)))
  ·obtain ⟨x, rfl⟩ := upd_of (show x 0 = .agg #[.int .i64 tab, .slice pa pan.length pc, .int .i64 hei, .slice ta top.length tc, .slice ba bot.length bc, .int .i64 slo, .bool opn] from hd 0 _ (by simp) rfl)
   try dsimp only [upd, Nat.reduceBEq, cond_true, cond_false]
   refine wpOp_step rfl (fun K' hK' => ?_)
   go_simp
   refine (CB.out v (HP.out.grow (gU.tr gv)) (HT.out.grow (gU.tr gv)) (HB.out.grow (gU.tr gv))).mono ?_
   rintro e v' ⟨rfl, hg⟩
   exact hK' _ _ (hK _ _ hg (at_of rfl (rfl)))
  ·try dsimp only [upd, Nat.reduceBEq, cond_true, cond_false]
   refine wpOp_step rfl (fun K' hK' => ?_)
   rw [if_pos (by rfl)]
   refine wp_load_mid 48 _ rfl (w.heap.size + 1) 0 (by rfl) [.int .i64 W.ll, .int .i64 W.lh, .int .i64 W.wl, .int .i64 W.wh, .int .i64 W.hl, .int .i64 W.hh, .int .i64 W.ol, .int .i64 W.oh, .int .i64 W.il, .int .i64 W.ih, .bool W.wo] _ (fun j u hu => by rw [Nat.zero_add]; exact (h2.keep gv).2 j u hu) Try.underlying48 rfl (by kernel_rfl) ?_
   exact hK' _ _ (hK _ _ (Below.refl _ _) (at_of rfl (rfl)))
  ·obtain ⟨x, rfl⟩ := upd_of (show x 2 = .agg #[.int .i64 W.ll, .int .i64 W.lh, .int .i64 W.wl, .int .i64 W.wh, .int .i64 W.hl, .int .i64 W.hh, .int .i64 W.ol, .int .i64 W.oh, .int .i64 W.il, .int .i64 W.ih, .bool W.wo] from hd 2 _ (by simp) rfl)
   try dsimp only [upd, Nat.reduceBEq, cond_true, cond_false]
   refine wpOp_step rfl (fun K' hK' => ?_)
   go_simp
   refine (CW.out v).mono ?_
   rintro e v' ⟨rfl, hg⟩
   exact hK' _ _ (hK _ _ hg (at_of rfl (rfl)))
  ·try dsimp only [upd, Nat.reduceBEq, cond_true, cond_false]
   refine wpOp_step rfl (fun K' hK' => ?_)
   rw [if_pos (by rfl)]
   refine wp_load_mid 37 _ rfl (w.heap.size + 1 + 1) 0 (by rfl) [.int .i64 cl, .int .i64 ch] _ (fun j u hu => by rw [Nat.zero_add]; exact (h3.keep gv).2 j u hu) Try.underlying37 rfl (by kernel_rfl) ?_
   exact hK' _ _ (hK _ _ (Below.refl _ _) (at_of rfl (rfl)))
  ·obtain ⟨x, rfl⟩ := upd_of (show x 4 = .agg #[.int .i64 cl, .int .i64 ch] from hd 4 _ (by simp) rfl)
   try dsimp only [upd, Nat.reduceBEq, cond_true, cond_false]
   refine wpOp_step rfl (fun K' hK' => ?_)
   go_simp
   have hg := Gr.al v (.cells (List.toArray [.int .i64 cl, .int .i64 ch]) 37)
   exact hK' _ _ (hK _ _ hg (at_of rfl (⟨_, rfl, SRow.new1 v 37 cl ch v.heap.size rfl⟩)))
  ·obtain ⟨a3, e5, r3⟩ := hd 5 _ (by simp) rfl
   obtain ⟨x, rfl⟩ := upd_of (show x 5 = .slice a3 1 1 from e5)
   try dsimp only [upd, Nat.reduceBEq, cond_true, cond_false]
   refine wpOp_step rfl (fun K' hK' => ?_)
   go_simp
   refine (CM.out a3 v r3).mono ?_
   rintro e v' ⟨rfl, hg⟩
   exact hK' _ _ (hK _ _ hg (at_of rfl (rfl)))
  ·obtain ⟨x, rfl⟩ := upd_of (show x 1 = .int .i64 e1 from hd 1 _ (by simp) rfl)
   obtain ⟨x, rfl⟩ := upd_of (show x 3 = .int .i64 e2 from hd 3 _ (by simp) rfl)
   obtain ⟨x, rfl⟩ := upd_of (show x 6 = .int .i64 e3 from hd 6 _ (by simp) rfl)
   try dsimp only [upd, Nat.reduceBEq, cond_true, cond_false]
   refine wpOp_step rfl (fun K' hK' => ?_)
   go_simp
   have hg := Gr.al v (.cells (List.toArray [.int .i64 e1, .int .i64 e2, .int .i64 e3]) 28)
   exact hK' _ _ (hK _ _ hg (at_of rfl (⟨_, rfl, IRow.new' v 28 [e1, e2, e3] (by simp) v.heap.size rfl _ (by rfl)⟩)))
  ·obtain ⟨a7, e7, r7⟩ := hd 7 _ (by simp) rfl
   obtain ⟨x, rfl⟩ := upd_of (show x 7 = .slice a7 3 3 from e7)
   try dsimp only [upd, Nat.reduceBEq, cond_true, cond_false]
   refine wpOp_step rfl (fun K' hK' => ?_)
   go_simp
   refine (CE.out a7 v r7).mono ?_
   rintro e v' ⟨rfl, hg⟩
   exact hK' _ _ (hK _ _ hg (at_of rfl (rfl)))
 case fin1 =>
  rintro x v gv hd
  obtain ⟨x, rfl⟩ := upd_of (show x 8 = .int .i64 E from hd 8 _ (by omega) rfl)
  clear hd
  show wpList Try.prog _ _ (List.drop 9 _) (⟨#[_, _, _, _, _, _, _, _, _, _, _, _, _, _, x 0, x 1, x 2, x 3, x 4, x 5, x 6, x 7, .int .i64 E, _, _, _, _, _, _, _, _, _, _, _, _, _, _, _, _, _, _, _, _, _, _, _, _, _, _, _], []⟩ : Act) v
  simp only [List.drop_succ_cons, List.drop_zero]
  go_wp2
  refine bodyPost_ret (v := .tuple #[.slice none 0 0, .int .i64 E]) (by simp [results, Try.results42, go_sem]) rfl ⟨rfl, gU.tr gv⟩

end Go.Proofs.Ytoihnilgmdcndaa

namespace Go.Proofs.Ytoihnilgmdcndaa
set_option linter.unusedVariables false
set_option linter.unusedSimpArgs false
open Go.RowKit

theorem out_iff {cl ch lo hi : Int} (hc : cl ≤ ch) : outB cl ch lo hi = false ↔ lo ≤ cl ∧ ch ≤ hi := by
 simp only [outB, Bool.or_eq_false_iff, decide_eq_false_iff_not]
 omega

/-- The checks that are named ascend; each is one whose calipers do not hold all. -/
theorem bad_get {H : Nat → Sp} {cl ch : Int} : ∀ (n : Nat) (i : Nat) (x : Int × Int), (badL cl ch H n)[i]? = some x → ∃ k : Nat, k < n ∧ x = ((k : Int), outN cl ch (H k).lo (H k).hi) ∧ outB cl ch (H k).lo (H k).hi = true
 | 0, i, x, h => by simp [badL] at h
 | n + 1, i, x, h => by
  unfold badL at h
  rcases Nat.lt_or_ge i (badL cl ch H n).length with hi | hi
  ·rw [List.getElem?_append_left hi] at h
   obtain ⟨k, hk, e, o⟩ := bad_get n i x h
   exact ⟨k, by omega, e, o⟩
  ·rw [List.getElem?_append_right hi] at h
   by_cases c : outB cl ch (H n).lo (H n).hi = true
   ·rw [if_pos c] at h
    cases hj : i - (badL cl ch H n).length with
    | zero => rw [hj] at h; simp at h; exact ⟨n, by omega, h.symm, c⟩
    | succ j => rw [hj] at h; simp at h
   ·rw [if_neg c] at h
    simp at h

theorem bad_up {H : Nat → Sp} {cl ch : Int} : ∀ (n : Nat) (i j : Nat) (x y : Int × Int), i < j → (badL cl ch H n)[i]? = some x → (badL cl ch H n)[j]? = some y → x.1 < y.1
 | 0, i, j, x, y, _, h, _ => by simp [badL] at h
 | n + 1, i, j, x, y, hij, h1, h2 => by
  unfold badL at h1 h2
  rcases Nat.lt_or_ge j (badL cl ch H n).length with hj | hj
  ·rw [List.getElem?_append_left hj] at h2
   rw [List.getElem?_append_left (by omega)] at h1
   exact bad_up n i j x y hij h1 h2
  ·rw [List.getElem?_append_right hj] at h2
   by_cases c : outB cl ch (H n).lo (H n).hi = true
   ·rw [if_pos c] at h1 h2
    cases hq : j - (badL cl ch H n).length with
    | succ q => rw [hq] at h2; simp at h2
    | zero =>
     rw [hq] at h2
     simp at h2
     rw [List.getElem?_append_left (by omega)] at h1
     obtain ⟨k, hk, e, _⟩ := bad_get n i x h1
     subst h2
     subst e
     show (k : Int) < (n : Int)
     omega
   ·rw [if_neg c] at h2
    simp at h2

/-- Whether a check is among some. -/
def namedL (l : List (Int × Int)) (k : Int) : Bool := l.any fun x => x.1 == k

theorem namedL_bad {H : Nat → Sp} {cl ch : Int} {k : Nat} : ∀ n, k < n → namedL (badL cl ch H n) k = outB cl ch (H k).lo (H k).hi
 | 0, h => absurd h (Nat.not_lt_zero k)
 | n + 1, h => by
  unfold badL namedL
  rw [List.any_append]
  have fresh : ∀ m, m ≤ k → (badL cl ch H m).any (fun x => x.1 == (k : Int)) = false := by
   intro m hm
   rw [List.any_eq_false]
   intro x hx
   obtain ⟨i, hi, e⟩ := List.getElem_of_mem hx
   obtain ⟨q, hq, e2, _⟩ := bad_get m i x (by rw [List.getElem?_eq_getElem hi, e])
   subst e2
   simp
   omega
  by_cases hk : k = n
  ·subst hk
   rw [fresh k (Nat.le_refl _), Bool.false_or]
   cases c : outB cl ch (H k).lo (H k).hi with
   | true => rw [if_pos rfl]; simp
   | false => rw [if_neg (by simp)]; rfl
  ·have ih := namedL_bad (H := H) (cl := cl) (ch := ch) n (show k < n by omega)
   unfold namedL at ih
   rw [ih]
   split
   ·simp
    intro e
    omega
   ·simp

/-- What is known of a check that Close names. -/
theorem bad_says {H : Nat → Sp} {cl ch : Int} (hc : cl ≤ ch) {i : Nat} {x : Int × Int} (h : (badL cl ch H 10)[i]? = some x) :
  (0 ≤ x.1 ∧ x.1 ≤ 9) ∧ (cl ≤ x.2 ∧ x.2 ≤ ch) ∧ namedL (badL x.2 x.2 H 10) x.1 = true ∧ (cl < x.2 → namedL (badL cl (x.2 - 1) H 10) x.1 = false) := by
 obtain ⟨k, hk, rfl, ho⟩ := bad_get 10 i x h
 have hn : cl ≤ outN cl ch (H k).lo (H k).hi ∧ outN cl ch (H k).lo (H k).hi ≤ ch ∧ outB (outN cl ch (H k).lo (H k).hi) (outN cl ch (H k).lo (H k).hi) (H k).lo (H k).hi = true ∧ (cl < outN cl ch (H k).lo (H k).hi → outB cl (outN cl ch (H k).lo (H k).hi - 1) (H k).lo (H k).hi = false) := by
  unfold outN
  simp only [outB, Bool.or_eq_true, decide_eq_true_eq] at ho
  split
  ·refine ⟨by omega, by omega, ?_, fun h => by omega⟩
   simp only [outB, Bool.or_eq_true, decide_eq_true_eq]
   omega
  ·split
   ·refine ⟨by omega, by omega, ?_, fun _ => ?_⟩
    ·simp only [outB, Bool.or_eq_true, decide_eq_true_eq]
     omega
    ·simp only [outB, Bool.or_eq_false_iff, decide_eq_false_iff_not]
     omega
   ·omega
 refine ⟨⟨by simp only; omega, by simp only; omega⟩, ⟨hn.1, hn.2.1⟩, ?_, fun h => ?_⟩
 ·rw [namedL_bad 10 hk]; exact hn.2.2.1
 ·rw [namedL_bad 10 hk]; exact hn.2.2.2 h

theorem badL_nil {H : Nat → Sp} {cl ch : Int} (hc : cl ≤ ch) : ∀ n, badL cl ch H n = [] ↔ ∀ k, k < n → Holding H cl ch k
 | 0 => by simp [badL]
 | n + 1 => by
  have ih := badL_nil (H := H) hc n
  unfold badL
  rw [List.append_eq_nil_iff, ih]
  constructor
  ·rintro ⟨a, b⟩ k hk
   by_cases e : k = n
   ·subst e
    refine (out_iff hc).1 ?_
    cases c : outB cl ch (H k).lo (H k).hi with
    | false => rfl
    | true => rw [c] at b; simp at b
   ·exact a k (by omega)
  ·intro h
   refine ⟨fun k hk => h k (by omega), ?_⟩
   rw [out_no hc (h n (by omega))]
   rfl

theorem calTo_says {H : Nat → Sp} : ∀ (n : Nat) (cl ch : Int), ((calTo H n).lo ≤ cl ∧ ch ≤ (calTo H n).hi) ↔ (1 ≤ cl ∧ ch ≤ 10000 ∧ ∀ k, k < n → Holding H cl ch k)
 | 0, cl, ch => by simp [calTo]
 | n + 1, cl, ch => by
  have ih := calTo_says (H := H) n cl ch
  simp only [calTo]
  constructor
  ·intro h
   obtain ⟨a, b, c⟩ := ih.1 ⟨by omega, by omega⟩
   refine ⟨a, b, fun k hk => ?_⟩
   by_cases e : k = n
   ·subst e; exact ⟨by omega, by omega⟩
   ·exact c k (by omega)
  ·rintro ⟨a, b, c⟩
   have := ih.2 ⟨a, b, fun k hk => c k (by omega)⟩
   obtain ⟨d, e⟩ := c n (by omega)
   omega

/-- No check is named just if the span lies in the calipers. -/
theorem bad_cal {H : Nat → Sp} {cl ch : Int} (c : Cal2 cl ch) : badL cl ch H 10 = [] ↔ ((calTo H 10).lo ≤ cl ∧ ch ≤ (calTo H 10).hi) := by
 obtain ⟨c0, c1, c2⟩ := c
 rw [badL_nil c1, calTo_says]
 exact ⟨fun h => ⟨c0, c2, h⟩, fun h => h.2.2⟩

set_option maxRecDepth 100000 in
theorem named_any (l : List (Int × Int)) (hl : l.length ≤ 10) (k : Int) (a : Option Addr) (cap : Nat) (w : World) (hr : BRow w a l) :
  Calls Try.prog 45 #[.slice a l.length cap, .int .i64 k] w fun e w' => e = .returned (.bool (namedL l k)) ∧ Gr w w' := by
 have HL := Lib.hid hl
 clear hl
 go_enter Try.func45, Try.ntmps45
 go_wp2
 go_loopw [5] (fun x wr => Hid (∃ i : Nat, i ≤ l.length ∧ x = .int .i64 i ∧ namedL (l.take i) k = false ∧ Gr w wr)) (fun x _ => l.length - (intOf x).toNat)
 case atStart => exact Lib.hid ⟨0, by omega, rfl, rfl, Below.refl _ _⟩
 case round =>
  obtain ⟨i, hi, rfl, hn, gW⟩ := hrel.out
  clear hrel
  refine wp_abs (fun Z => Gr w Z) gW ?_
  clear gW
  rintro wz gW
  by_cases hlt : i < l.length
  case neg =>
   have e : i = l.length := by omega
   have HN := Lib.hid (show namedL l k = false by rw [← hn, e, List.take_length])
   subst e
   clear hn
   go_wp2
   go_ret
   exact ⟨ret_bool HN.out.symm, gW⟩
  case pos =>
   obtain ⟨x, hx⟩ : ∃ x, l[i]? = some x := ⟨l[i], by simp [hlt]⟩
   obtain ⟨b, off, ha, hb, hc⟩ := (hr.grow gW).2 i x hx
   subst ha
   have c0 := hc 0 _ rfl
   simp only [Nat.add_zero] at c0
   have et : namedL (l.take (i + 1)) k = (namedL (l.take i) k || (x.1 == k)) := by
    unfold namedL
    rw [List.take_add_one, hx, List.any_append]
    simp
   by_cases hk : x.1 = k
   ·have HN := Lib.hid (show namedL l k = true by
     unfold namedL
     rw [List.any_eq_true]
     exact ⟨x, List.mem_of_getElem? hx, by simpa using hk⟩)
    have hd : (x.1 == k) = true := by simpa using hk
    clear hn et hx hc hk
    go_wp2
    go_ret
    exact ⟨ret_bool HN.out.symm, gW⟩
   ·have hd : (x.1 == k) = false := by simpa using hk
    have HE := Lib.hid (show namedL (l.take (i + 1)) k = false by rw [et, hn, hd]; rfl)
    have hw : IntKind.i64.wrap ((i : Int) + 1) = (i : Int) + 1 := IntWalk.i64_in _ (by have := HL.out; omega)
    clear hn et hx hc hk
    go_wp2
    go_roundw
    case rel => exact Lib.hid ⟨i + 1, by omega, by go_num, HE.out, gW⟩
    case measure => simp [intOf]; omega

end Go.Proofs.Ytoihnilgmdcndaa

namespace Go.Proofs.Ytoihnilgmdcndaa
set_option linter.unusedVariables false
set_option linter.unusedSimpArgs false
open Go.RowKit

theorem meas_ok {cl ch : Int} (c : Cal2 cl ch) : measE [⟨cl, ch⟩] = 0 := by
  have := c.ok
  simp [measE, okSp, this]

/-- What Blank hands back. -/
def BlankFound (m0 m1 m2 m3 u0 u1 v0 v1 mh ms : Int) (o : Bool) (w : World) (e : Ending) (w' : World) : Prop :=
  ∃ P T B, e = .returned (.tuple #[.agg #[.int .i64 30, .slice (some ⟨P, 0, none⟩) 4 4, .int .i64 mh, .slice (some ⟨T, 0, none⟩) 2 2, .slice (some ⟨B, 0, none⟩) 2 2, .int .i64 ms, .bool o], .int .i64 0, .int .i64 0]) ∧ Gr w w' ∧ IRow w' (some ⟨P, 0, none⟩) [m0, m1, m2, m3] ∧ IRow w' (some ⟨T, 0, none⟩) [u0, u1] ∧ IRow w' (some ⟨B, 0, none⟩) [v0, v1]

theorem blank_found (W : Wi) (o : Bool) (hW : W.wo = o) (H : W.ok) (cl ch : Int) (c : Cal2 cl ch) (m0 m1 m2 m3 u0 u1 v0 v1 mh ms : Int) (e : (smallD (wholeR o) W cl ch).1 = drOf m0 m1 m2 m3 u0 u1 v0 v1 mh ms) (e10 : (smallD (wholeR o) W cl ch).2 = 10) (w : World) :
    Calls Try.prog 29 #[.agg #[.int .i64 W.ll, .int .i64 W.lh, .int .i64 W.wl, .int .i64 W.wh, .int .i64 W.hl, .int .i64 W.hh, .int .i64 W.ol, .int .i64 W.oh, .int .i64 W.il, .int .i64 W.ih, .bool W.wo], .agg #[.int .i64 cl, .int .i64 ch], .int .i64 30] w (BlankFound m0 m1 m2 m3 u0 u1 v0 v1 mh ms o w) := by
  refine (blankF_any W cl ch 30 w).mono ?_
  rintro en w' ⟨g, h⟩
  have hE : firstE [W.err, measE [⟨cl, ch⟩]] = 0 := by rw [show W.err = 0 from of_goodW H, meas_ok c]; rfl
  rw [hE, hW, e, e10] at h
  rcases h with h | h | h | h
  · exact absurd rfl h.1
  · exact absurd h.2.1 (by decide)
  · exact absurd h.2.2.1 (by omega)
  · obtain ⟨_, _, _, P, T, B, he, rp, rt, rb⟩ := h
    exact ⟨P, T, B, he, g, rp, rt, rb⟩

/-- own of a blank with any slot, its rows in blocks of their own. -/
def OwnSlo (p0 p1 p2 p3 t0 t1 s0 s1 hei slo : Int) (o : Bool) (w : World) (e : Ending) (w' : World) : Prop :=
  ∃ r3 c3 r7 c7 r11 c11, e = .returned (.agg #[.int .i64 30, .slice (some ⟨r3, 0, none⟩) 4 c3, .int .i64 hei, .slice (some ⟨r7, 0, none⟩) 2 c7, .slice (some ⟨r11, 0, none⟩) 2 c11, .int .i64 slo, .bool o]) ∧ Gr w w' ∧ (Own w' r3 [.int .i64 p0, .int .i64 p1, .int .i64 p2, .int .i64 p3] ∧ Own w' r7 [.int .i64 t0, .int .i64 t1] ∧ Own w' r11 [.int .i64 s0, .int .i64 s1]) ∧ (w.heap.size ≤ r3 ∧ w.heap.size ≤ r7 ∧ w.heap.size ≤ r11) ∧ r3 ≠ r7 ∧ r3 ≠ r11 ∧ r7 ≠ r11

theorem ownSlo_any (p0 p1 p2 p3 t0 t1 s0 s1 hei slo : Int) (o : Bool) (pa ta ba : Option Addr) (pc tc bc : Nat) (w : World) (hp : IRow w pa [p0, p1, p2, p3]) (ht : IRow w ta [t0, t1]) (hb : IRow w ba [s0, s1]) :
    Calls Try.prog 16 #[.agg #[.int .i64 30, .slice pa 4 pc, .int .i64 hei, .slice ta 2 tc, .slice ba 2 bc, .int .i64 slo, .bool o]] w (OwnSlo p0 p1 p2 p3 t0 t1 s0 s1 hei slo o w) := by
  refine (own02_own 30 hei slo [p0, p1, p2, p3] [t0, t1] [s0, s1] pa ta ba pc tc bc o (by simp) (by simp) (by simp) w hp ht hb).mono ?_
  rintro e w' ⟨r3, c3, r7, c7, r11, c11, he, g, o3, o7, o11, l, n⟩
  exact ⟨r3, c3, r7, c7, r11, c11, he, g, ⟨o3, o7, o11⟩, l, n⟩

theorem NumOk.good {p0 p1 p2 p3 t0 t1 s0 s1 hei slo : Int} {o : Bool} (h : NumOk p0 p1 p2 p3 t0 t1 s0 s1 hei slo o) : GoodB 30 hei slo [p0, p1, p2, p3] [t0, t1] [s0, s1] o := by
  obtain ⟨h0, h1, h2, h3, h4, h5, h6, h7, h8, h9, h10⟩ := h
  refine ⟨rfl, rfl, rfl, by decide, ?_, ?_, ?_, ?_, ?_, fun e => ?_⟩
  · simp only [inB, in1, List.all_cons, List.all_nil, Bool.and_true, Bool.and_eq_true, decide_eq_true_eq]; omega
  · simp only [inB, in1, List.all_cons, List.all_nil, Bool.and_true, Bool.and_eq_true, decide_eq_true_eq]; omega
  · simp only [inB, in1, List.all_cons, List.all_nil, Bool.and_true, Bool.and_eq_true, decide_eq_true_eq]; omega
  · simp only [inB, in1, List.all_cons, List.all_nil, Bool.and_true, Bool.and_eq_true, decide_eq_true_eq]; omega
  · simp only [inB, in1, List.all_cons, List.all_nil, Bool.and_true, Bool.and_eq_true, decide_eq_true_eq]; omega
  · obtain ⟨rfl, rfl⟩ := h10 e
    decide

theorem NumOk.of_good {p0 p1 p2 p3 t0 t1 s0 s1 hei slo : Int} {o : Bool} (h : GoodB 30 hei slo [p0, p1, p2, p3] [t0, t1] [s0, s1] o) : NumOk p0 p1 p2 p3 t0 t1 s0 s1 hei slo o := by
  have q1 := h.gpan
  have q2 := h.ghei
  have q3 := h.gtop
  have q4 := h.gbot
  have q5 := h.gslo
  simp only [inB, in1, List.all_cons, List.all_nil, Bool.and_true, Bool.and_eq_true, decide_eq_true_eq] at q1 q2 q3 q4 q5
  refine ⟨by omega, by omega, by omega, by omega, by omega, by omega, by omega, by omega, by omega, by omega, fun e => ?_⟩
  have q6 := h.gopn e
  simp only [inB, in1, List.all_cons, List.all_nil, Bool.and_true, Bool.and_eq_true, decide_eq_true_eq] at q6
  omega

/-- Close of a blank that closes. -/
theorem close_fea (p0 p1 p2 p3 t0 t1 s0 s1 hei slo : Int) (o : Bool) (W : Wi) (hW : W.wo = o) (H : W.ok) (cl ch : Int) (c : Cal2 cl ch) (F : Fea (wholeR o) W cl ch (drOf p0 p1 p2 p3 t0 t1 s0 s1 hei slo)) (pa ta ba : Option Addr) (pc tc bc : Nat) (w : World) (hp : IRow w pa [p0, p1, p2, p3]) (ht : IRow w ta [t0, t1]) (hb : IRow w ba [s0, s1]) :
    Calls Try.prog 42 #[.agg #[.int .i64 30, .slice pa 4 pc, .int .i64 hei, .slice ta 2 tc, .slice ba 2 bc, .int .i64 slo, .bool o], .agg #[.int .i64 W.ll, .int .i64 W.lh, .int .i64 W.wl, .int .i64 W.wh, .int .i64 W.hl, .int .i64 W.hh, .int .i64 W.ol, .int .i64 W.oh, .int .i64 W.il, .int .i64 W.ih, .bool W.wo], .agg #[.int .i64 cl, .int .i64 ch]] w (NoBad w) := by
  refine (close_ok 30 hei slo [p0, p1, p2, p3] [t0, t1] [s0, s1] pa ta ba pc tc bc o W.ll W.lh W.wl W.wh W.hl W.hh W.ol W.oh W.il W.ih W.wo cl ch (num_of F).good H c.ok w hp ht hb).mono fun e w' h => h.none ?_
  exact badL_none c.2.1 10 (fun k hk => (okAll_iff c.2.1).1 (F.ok k hk))

end Go.Proofs.Ytoihnilgmdcndaa

namespace Go.Proofs.Ytoihnilgmdcndaa
set_option linter.unusedVariables false
set_option linter.unusedSimpArgs false
open Go.RowKit

/-- One number is smaller by one, the others are as they are. -/
def Less1 (m0 m1 m2 m3 u0 u1 v0 v1 mh ms p0 p1 p2 p3 t0 t1 s0 s1 hei slo : Int) : Prop :=
  (m0 - p0) + (m1 - p1) + (m2 - p2) + (m3 - p3) + (u0 - t0) + (u1 - t1) + (v0 - s0) + (v1 - s1) + (mh - hei) + (ms - slo) = 1 ∧ p0 ≤ m0 ∧ p1 ≤ m1 ∧ p2 ≤ m2 ∧ p3 ≤ m3 ∧ t0 ≤ u0 ∧ t1 ≤ u1 ∧ s0 ≤ v0 ∧ s1 ≤ v1 ∧ hei ≤ mh ∧ slo ≤ ms

theorem less_not {m0 m1 m2 m3 u0 u1 v0 v1 mh ms : Int} {o : Bool} {W : Wi} {cl ch : Int}
    (M : ∀ p0 p1 p2 p3 t0 t1 s0 s1 hei slo, Fea (wholeR o) W cl ch (drOf p0 p1 p2 p3 t0 t1 s0 s1 hei slo) → LeDr m0 m1 m2 m3 u0 u1 v0 v1 mh ms p0 p1 p2 p3 t0 t1 s0 s1 hei slo)
    {p0 p1 p2 p3 t0 t1 s0 s1 hei slo : Int} (L : Less1 m0 m1 m2 m3 u0 u1 v0 v1 mh ms p0 p1 p2 p3 t0 t1 s0 s1 hei slo) : ¬ Fea (wholeR o) W cl ch (drOf p0 p1 p2 p3 t0 t1 s0 s1 hei slo) := fun F => by
  obtain ⟨h0, h1, h2, h3, h4, h5, h6, h7⟩ := M _ _ _ _ _ _ _ _ _ _ F
  obtain ⟨a, b0, b1, b2, b3, b4, b5, b6, b7, b8, b9⟩ := L
  obtain ⟨c0, c1⟩ := h4 (by omega)
  obtain ⟨d0, d1⟩ := h5 (by omega)
  omega

end Go.Proofs.Ytoihnilgmdcndaa

namespace Go.Proofs.Ytoihnilgmdcndaa
set_option linter.unusedVariables false
set_option linter.unusedSimpArgs false
open Go.RowKit

theorem wp_region_late {P : Program} {Q : Exit → Act → World → Prop} {id : Nat} {W : World} {l : List Oper} (n p q : Nat) (late : List Nat) (c d : List Value) (t : TypeId) (ds : List (Nat × Nat)) (fr : (Nat → Value) → Act) (x0 : Nat → Value) (Fs : List (World → Value → Prop)) {a : Act} (ha : a = fr x0) (hm : P.follows .mixedOrders = true)
  (hB : (decide (n < l.toArray.size) && Region.sinkB .any l.toArray n && Region.chainB .any l.toArray n && minB .any l.toArray n && Region.seqB .any l.toArray (l.toArray.size - n) n (Array.replicate n true ++ Array.replicate (l.toArray.size - n) false)) = true)
  (hD : depB .any l.toArray ds = true)
  (hst : ∀ (i : Nat) (F : World → Value → Prop), Fs[i]? = some F → Stays F)
  (hpq : p < n ∧ q < n ∧ p ≠ q ∧ p ∉ late ∧ q ∉ late) (hall : ((List.range n).all fun i => i == q || late.contains i || ds.contains (q, i)) = true)
  (hstep : ∀ i, i < n → i ≠ p → i ≠ q → i ∉ late → ∀ x v, Gr W v → (∀ (j : Nat) (F : World → Value → Prop), (i, j) ∈ ds → j ≠ p → j ≠ q → Fs[j]? = some F → F v (x j)) → ∀ K : Act → World → Prop, (∀ u v', Gr v v' → (∀ F : World → Value → Prop, Fs[i]? = some F → F v' u) → K (fr (upd x i u)) v') → wpOp P l.toArray Q i K (fr x) v)
  (hp : ∀ x v, Gr W v → ∀ K : Act → World → Prop, K (fr (upd x p (.pointer (some ⟨v.heap.size, 0, none⟩)))) (v.alloc (.cells c.toArray t)) → wpOp P l.toArray Q p K (fr x) v)
  (hq : ∀ x v b, Gr W v → W.heap.size ≤ b → x p = .pointer (some ⟨b, 0, none⟩) → Own v b c → (∀ (j : Nat) (F : World → Value → Prop), (q, j) ∈ ds → j ≠ p → Fs[j]? = some F → F v (x j)) → ∀ K : Act → World → Prop, (∀ v', Gr W v' → Own v' b d → K (fr x) v') → wpOp P l.toArray Q q K (fr x) v)
  (hl : ∀ i, i < n → i ∈ late → ∀ x v, Gr W v → (∀ (j : Nat) (F : World → Value → Prop), (i, j) ∈ ds → j ≠ p → j ≠ q → Fs[j]? = some F → ∃ v0, F v0 (x j)) → ∀ K : Act → World → Prop, (∀ u, (∀ F : World → Value → Prop, Fs[i]? = some F → ∀ v0, F v0 u) → K (fr (upd x i u)) v) → wpOp P l.toArray Q i K (fr x) v)
  (hend : ∀ x v b, Gr W v → W.heap.size ≤ b → x p = .pointer (some ⟨b, 0, none⟩) → Own v b d → (∀ (j : Nat) (F : World → Value → Prop), j < n → j ≠ p → j ≠ q → Fs[j]? = some F → ∃ v0, F v0 (x j)) → wpList P l.toArray Q (l.drop n) (fr x) v) : (Code.region id l.toArray true).wp P Q a W := by
 subst ha
 obtain ⟨hpn, hqn, hne, hpl, hql⟩ := hpq
 have hqd : ∀ i, i < n → i ≠ q → i ∉ late → (q, i) ∈ ds := fun i hi h1 h2 => by
  have := List.all_eq_true.1 hall i (List.mem_range.2 hi)
  simpa [h1, h2] using this
 refine wp_region_inv' n ds (fun _ listed a v => ∃ x, a = fr x ∧ Gr W v ∧ (listed.getD p false = true → ∃ b, x p = .pointer (some ⟨b, 0, none⟩) ∧ W.heap.size ≤ b ∧ Own v b (if listed.getD q false = true then d else c)) ∧
   (∀ (j : Nat) (F : World → Value → Prop), j ≠ p → j ≠ q → Fs[j]? = some F → listed.getD j false = true → (if listed.getD q false = true then ∃ v0, F v0 (x j) else F v (x j))) ∧ (listed.getD q false = true → ∀ i, (q, i) ∈ ds → listed.getD i false = true)) hm hB hD
  ⟨x0, rfl, Gr.dr W, fun h => (by rw [getD_replicate_false] at h; cases h), fun j F _ _ _ h => (by rw [getD_replicate_false] at h; cases h), fun h => (by rw [getD_replicate_false] at h; cases h)⟩ ?_ ?_
 ·rintro i hi listed a v hun hdep ⟨x, rfl, gv, hv, hf, hqa⟩
  obtain ⟨hif, hit⟩ := getD_hun hun
  by_cases e1 : i = p
  ·subst e1
   have hqf : listed.getD q false = false := by
    cases hb : listed.getD q false with
    | false => rfl
    | true => rw [hqa hb i (hqd i hi hne hpl)] at hif; cases hif
   refine hp x v gv _ ⟨_, rfl, gv.tr (Gr.al v _), fun _ => ⟨_, upd_at _ _ _, gv.size, ?_⟩, fun j F h1 h2 hF hl => ?_, fun hl => ?_⟩
   ·rw [getD_set_ne false hne, hqf]
    exact Own.new v c t _ rfl
   ·have := hf j F h1 h2 hF (by rwa [getD_set_ne false (fun e => h1 e.symm)] at hl)
    rw [getD_set_ne false hne]
    rw [hqf] at this ⊢
    rw [upd_ne x _ h1]
    exact hst j F hF _ _ _ (Gr.al v _) this
   ·rw [getD_set_ne false hne, hqf] at hl
    cases hl
  ·by_cases e2 : i = q
   ·subst e2
    have hpt : listed.getD p false = true := hdep p (hqd p hpn hne hpl)
    obtain ⟨b, b1, b2, b3⟩ := hv hpt
    rw [hif] at b3
    refine hq x v b gv b2 b1 b3 (fun j F hj h1 hF => ?_) _ (fun v' hg ho => ⟨x, rfl, hg, fun _ => ⟨b, b1, b2, ?_⟩, fun j F h1 h2 hF hl => ?_, fun _ j hj => ?_⟩)
    ·by_cases e : j = i
     ·subst e
      have := hdep j hj
      rw [hif] at this
      cases this
     ·have := hf j F h1 e hF (hdep j hj)
      rw [hif] at this
      exact this
    ·rw [hit]; exact ho
    ·have := hf j F h1 h2 hF (by rwa [getD_set_ne false (fun e => h2 e.symm)] at hl)
     rw [hif] at this
     rw [hit]
     exact ⟨v, this⟩
    ·by_cases e : i = j
     ·subst e; exact hit
     ·rw [getD_set_ne false e]; exact hdep j hj
   ·by_cases e3 : i ∈ late
    ·refine hl i hi e3 x v gv (fun j F hj h1 h2 hF => ?_) _ (fun u hu => ⟨upd x i u, rfl, gv, fun hl => ?_, fun j F h1 h2 hF hl => ?_, fun hl j hj => ?_⟩)
     ·have := hf j F h1 h2 hF (hdep j hj)
      split at this
      ·exact this
      ·exact ⟨v, this⟩
     ·rw [getD_set_ne false e1] at hl
      rw [upd_ne x u (fun e => e1 e.symm), getD_set_ne false e2]
      exact hv hl
     ·rw [getD_set_ne false e2]
      by_cases e : j = i
      ·subst e
       rw [upd_at]
       split
       ·exact ⟨v, hu F hF v⟩
       ·exact hu F hF v
      ·rw [upd_ne x u e]
       exact hf j F h1 h2 hF (by rwa [getD_set_ne false (fun e' => e e'.symm)] at hl)
     ·rw [getD_set_ne false e2] at hl
      by_cases e : i = j
      ·subst e; exact hit
      ·rw [getD_set_ne false e]; exact hqa hl j hj
    ·have hqf : listed.getD q false = false := by
      cases hb : listed.getD q false with
      | false => rfl
      | true => rw [hqa hb i (hqd i hi e2 e3)] at hif; cases hif
     refine hstep i hi e1 e2 e3 x v gv (fun j F hj h1 h2 hF => ?_) _ (fun u v' hg hu => ⟨upd x i u, rfl, gv.tr hg, fun hl => ?_, fun j F h1 h2 hF hl => ?_, fun hl => ?_⟩)
     ·have := hf j F h1 h2 hF (hdep j hj)
      rw [hqf] at this
      exact this
     ·rw [getD_set_ne false e1] at hl
      obtain ⟨b, b1, b2, b3⟩ := hv hl
      refine ⟨b, by rw [upd_ne x u (fun e => e1 e.symm)]; exact b1, b2, ?_⟩
      rw [getD_set_ne false e2]
      exact b3.keep hg
     ·rw [getD_set_ne false e2, hqf]
      by_cases e : j = i
      ·subst e
       rw [upd_at]
       exact hu F hF
      ·rw [upd_ne x u e]
       have := hf j F h1 h2 hF (by rwa [getD_set_ne false (fun e' => e e'.symm)] at hl)
       rw [hqf] at this
       exact hst j F hF _ _ _ hg this
     ·rw [getD_set_ne false e2, hqf] at hl
      cases hl
 ·rintro listed a v hs hall' ⟨x, rfl, gv, hv, hf, hqa⟩
  have hl1 : ∀ j, j < n → listed.getD j false = true := fun j hj => by
   have h1 := hall' j hj
   have hl : j < listed.size := by omega
   simp [hl] at h1 ⊢
   exact h1
  obtain ⟨b, b1, b2, b3⟩ := hv (hl1 p hpn)
  rw [hl1 q hqn] at b3
  exact hend x v b gv b2 b1 b3 (fun j F hj h1 h2 hF => by
   have := hf j F h1 h2 hF (hl1 j hj)
   rw [hl1 q hqn] at this
   exact this)

/-- A load's and a store's fact: what held at some time. -/
theorem late_of {F : World → Value → Prop} {y : Value} {u : Value} (h : ∃ v0, F v0 y) (hF : ∀ v0, F v0 y → y = u) : y = u := by
 obtain ⟨v0, h⟩ := h
 exact hF v0 h

end Go.Proofs.Ytoihnilgmdcndaa

namespace Go.Proofs.Ytoihnilgmdcndaa
set_option linter.unusedVariables false
set_option linter.unusedSimpArgs false
open Go.RowKit

theorem wp_region_late3 {P : Program} {Q : Exit → Act → World → Prop} {id : Nat} {W : World} {l : List Oper} (n p q r : Nat) (late : List Nat) (c : List Value) (D : Value → List Value) (t : TypeId) (ds : List (Nat × Nat)) (fr : (Nat → Value) → Act) (x0 : Nat → Value) (Fs : List (World → Value → Prop)) {a : Act} (ha : a = fr x0) (hm : P.follows .mixedOrders = true)
  (hB : (decide (n < l.toArray.size) && Region.sinkB .any l.toArray n && Region.chainB .any l.toArray n && minB .any l.toArray n && Region.seqB .any l.toArray (l.toArray.size - n) n (Array.replicate n true ++ Array.replicate (l.toArray.size - n) false)) = true)
  (hD : depB .any l.toArray ds = true)
  (hst : ∀ (i : Nat) (F : World → Value → Prop), Fs[i]? = some F → Stays F)
  (hpq : p < n ∧ q < n ∧ p ≠ q ∧ p ∉ late ∧ q ∉ late ∧ r ∉ late) (hdn : ∀ e ∈ ds, e.2 < n) (hall : ((List.range n).all fun i => i == q || late.contains i || ds.contains (q, i)) = true)
  (hstep : ∀ i, i < n → i ≠ p → i ≠ q → i ∉ late → ∀ x v, Gr W v → (∀ (j : Nat) (F : World → Value → Prop), (i, j) ∈ ds → j ≠ p → j ≠ q → Fs[j]? = some F → F v (x j)) → ∀ K : Act → World → Prop, (∀ u v', Gr v v' → (∀ F : World → Value → Prop, Fs[i]? = some F → F v' u) → K (fr (upd x i u)) v') → wpOp P l.toArray Q i K (fr x) v)
  (hp : ∀ x v, Gr W v → ∀ K : Act → World → Prop, K (fr (upd x p (.pointer (some ⟨v.heap.size, 0, none⟩)))) (v.alloc (.cells c.toArray t)) → wpOp P l.toArray Q p K (fr x) v)
  (hq : ∀ x v b, Gr W v → W.heap.size ≤ b → x p = .pointer (some ⟨b, 0, none⟩) → Own v b c → (∀ (j : Nat) (F : World → Value → Prop), (q, j) ∈ ds → j ≠ p → Fs[j]? = some F → F v (x j)) → ∀ K : Act → World → Prop, (∀ v', Kx (fun k => k = b) v v' → Own v' b (D (x r)) → K (fr x) v') → wpOp P l.toArray Q q K (fr x) v)
  (hl : ∀ i, i < n → i ∈ late → ∀ x v, Gr W v → (∀ (j : Nat) (F : World → Value → Prop), (i, j) ∈ ds → j ≠ p → j ≠ q → Fs[j]? = some F → ∃ v0, F v0 (x j)) → ∀ K : Act → World → Prop, (∀ u, (∀ F : World → Value → Prop, Fs[i]? = some F → ∀ v0, F v0 u) → K (fr (upd x i u)) v) → wpOp P l.toArray Q i K (fr x) v)
  (hend : ∀ x v v0 b, Gr W v → Gr W v0 → W.heap.size ≤ b → x p = .pointer (some ⟨b, 0, none⟩) → Own v0 b c → Kx (fun k => k = b) v0 v → Own v b (D (x r)) → (∀ (j : Nat) (F : World → Value → Prop), j < n → j ≠ p → j ≠ q → j ∉ late → Fs[j]? = some F → F v0 (x j)) → (∀ (j : Nat) (F : World → Value → Prop), j < n → j ∈ late → Fs[j]? = some F → ∃ v1, F v1 (x j)) → wpList P l.toArray Q (l.drop n) (fr x) v) : (Code.region id l.toArray true).wp P Q a W := by
 subst ha
 obtain ⟨hpn, hqn, hne, hpl, hql, hrl⟩ := hpq
 have hqd : ∀ i, i < n → i ≠ q → i ∉ late → (q, i) ∈ ds := fun i hi h1 h2 => by
  have := List.all_eq_true.1 hall i (List.mem_range.2 hi)
  simpa [h1, h2] using this
 have kg : ∀ {v v' : World} {b : Nat}, Gr W v → W.heap.size ≤ b → Kx (fun k => k = b) v v' → Gr W v' := fun hg hb g => Kx.toGr ((Kx.gr (Z := noBlock) hg).th g (fun i e => .inr (by subst e; exact hb)))
 refine wp_region_inv' n ds (fun _ listed a v => ∃ x, a = fr x ∧ Gr W v ∧ (listed.getD q false = false → listed.getD p false = true → ∃ b, x p = .pointer (some ⟨b, 0, none⟩) ∧ W.heap.size ≤ b ∧ Own v b c) ∧
   (listed.getD q false = false → ∀ (j : Nat) (F : World → Value → Prop), j ≠ p → j ≠ q → Fs[j]? = some F → listed.getD j false = true → F v (x j)) ∧
   (listed.getD q false = true → ∃ v0 b, Gr W v0 ∧ W.heap.size ≤ b ∧ x p = .pointer (some ⟨b, 0, none⟩) ∧ Own v0 b c ∧ Kx (fun k => k = b) v0 v ∧ Own v b (D (x r)) ∧ (∀ (j : Nat) (F : World → Value → Prop), j < n → j ≠ p → j ≠ q → j ∉ late → Fs[j]? = some F → F v0 (x j)) ∧ (∀ (j : Nat) (F : World → Value → Prop), j < n → j ∈ late → listed.getD j false = true → Fs[j]? = some F → ∃ v1, F v1 (x j))) ∧ (listed.getD q false = true → ∀ i, (q, i) ∈ ds → listed.getD i false = true)) hm hB hD
  ⟨x0, rfl, Gr.dr W, fun _ h => (by rw [getD_replicate_false] at h; cases h), fun _ j F _ _ _ h => (by rw [getD_replicate_false] at h; cases h), fun h => (by rw [getD_replicate_false] at h; cases h), fun h => (by rw [getD_replicate_false] at h; cases h)⟩ ?_ ?_
 ·rintro i hi listed a v hun hdep ⟨x, rfl, gv, hv, hf, hw, hqa⟩
  obtain ⟨hif, hit⟩ := getD_hun hun
  have qf : i ≠ q → i ∉ late → listed.getD q false = false := fun h1 h2 => by
   cases hb : listed.getD q false with
   | false => rfl
   | true => rw [hqa hb i (hqd i hi h1 h2)] at hif; cases hif
  by_cases e1 : i = p
  ·subst e1
   have hqf := qf hne hpl
   refine hp x v gv _ ⟨_, rfl, gv.tr (Gr.al v _), fun _ _ => ⟨_, upd_at _ _ _, gv.size, Own.new v c t _ rfl⟩, fun _ j F h1 h2 hF hl => ?_, fun hl => ?_, fun hl => ?_⟩
   ·rw [upd_ne x _ h1]
    exact hst j F hF _ _ _ (Gr.al v _) (hf hqf j F h1 h2 hF (by rwa [getD_set_ne false (fun e => h1 e.symm)] at hl))
   ·rw [getD_set_ne false hne, hqf] at hl; cases hl
   ·rw [getD_set_ne false hne, hqf] at hl; cases hl
  ·by_cases e2 : i = q
   ·subst e2
    have hpt : listed.getD p false = true := hdep p (hqd p hpn hne hpl)
    obtain ⟨b, b1, b2, b3⟩ := hv hif hpt
    refine hq x v b gv b2 b1 b3 (fun j F hj h1 hF => ?_) _ (fun v' hk ho' => ⟨x, rfl, kg gv b2 hk, fun h => ?_, fun h => ?_, fun _ => ⟨v, b, gv, b2, b1, b3, hk, ho', fun j F hj h1 h2 h3 hF => hf hif j F h1 h2 hF (hdep j (hqd j hj h2 h3)), fun j F hj h1 hl hF => ?_⟩, fun _ j hj => ?_⟩)
    ·by_cases e : j = i
     ·subst e
      have := hdep j hj
      rw [hif] at this
      cases this
     ·exact hf hif j F h1 e hF (hdep j hj)
    ·rw [hit] at h; cases h
    ·rw [hit] at h; cases h
    ·have h2 : j ≠ i := fun e => hql (e ▸ h1)
     have h3 : j ≠ p := fun e => hpl (e ▸ h1)
     exact ⟨v, hf hif j F h3 h2 hF (by rwa [getD_set_ne false (fun e => h2 e.symm)] at hl)⟩
    ·by_cases e : i = j
     ·subst e; exact hit
     ·rw [getD_set_ne false e]; exact hdep j hj
   ·by_cases e3 : i ∈ late
    ·refine hl i hi e3 x v gv (fun j F hj h1 h2 hF => ?_) _ (fun u hu => ⟨upd x i u, rfl, gv, fun h hl => ?_, fun h j F h1 h2 hF hl => ?_, fun h => ?_, fun h j hj => ?_⟩)
     ·cases hb : listed.getD q false with
      | false => exact ⟨v, hf hb j F h1 h2 hF (hdep j hj)⟩
      | true =>
       obtain ⟨v0, b, w1, w2, w3, w4, w5, wo, w6, w7⟩ := hw hb
       have hjn : j < n := hdn _ hj
       by_cases hjl : j ∈ late
       ·exact w7 j F hjn hjl (hdep j hj) hF
       ·exact ⟨v0, w6 j F hjn h1 h2 hjl hF⟩
     ·rw [getD_set_ne false e2] at h
      rw [getD_set_ne false e1] at hl
      rw [upd_ne x u (fun e => e1 e.symm)]
      exact hv h hl
     ·rw [getD_set_ne false e2] at h
      by_cases e : j = i
      ·subst e; rw [upd_at]; exact hu F hF v
      ·rw [upd_ne x u e]
       exact hf h j F h1 h2 hF (by rwa [getD_set_ne false (fun e' => e e'.symm)] at hl)
     ·rw [getD_set_ne false e2] at h
      obtain ⟨v0, b, w1, w2, w3, w4, w5, wo, w6, w7⟩ := hw h
      refine ⟨v0, b, w1, w2, by rw [upd_ne x u (fun e => e1 e.symm)]; exact w3, w4, w5, by rw [upd_ne x u (fun e => hrl (by rw [e]; exact e3))]; exact wo, fun j F hj h1 h2 h3 hF => ?_, fun j F hj h1 hl hF => ?_⟩
      ·rw [upd_ne x u (fun e => h3 (by rw [e]; exact e3))]; exact w6 j F hj h1 h2 h3 hF
      ·by_cases e : j = i
       ·subst e; rw [upd_at]; exact ⟨v, hu F hF v⟩
       ·rw [upd_ne x u e]
        exact w7 j F hj h1 (by rwa [getD_set_ne false (fun e' => e e'.symm)] at hl) hF
     ·rw [getD_set_ne false e2] at h
      by_cases e : i = j
      ·subst e; exact hit
      ·rw [getD_set_ne false e]; exact hqa h j hj
    ·have hqf := qf e2 e3
     refine hstep i hi e1 e2 e3 x v gv (fun j F hj h1 h2 hF => hf hqf j F h1 h2 hF (hdep j hj)) _ (fun u v' hg hu => ⟨upd x i u, rfl, gv.tr hg, fun h hl => ?_, fun h j F h1 h2 hF hl => ?_, fun h => ?_, fun h => ?_⟩)
     ·rw [getD_set_ne false e1] at hl
      obtain ⟨b, b1, b2, b3⟩ := hv hqf hl
      exact ⟨b, by rw [upd_ne x u (fun e => e1 e.symm)]; exact b1, b2, b3.keep hg⟩
     ·by_cases e : j = i
      ·subst e; rw [upd_at]; exact hu F hF
      ·rw [upd_ne x u e]
       exact hst j F hF _ _ _ hg (hf hqf j F h1 h2 hF (by rwa [getD_set_ne false (fun e' => e e'.symm)] at hl))
     ·rw [getD_set_ne false e2, hqf] at h; cases h
     ·rw [getD_set_ne false e2, hqf] at h; cases h
 ·rintro listed a v hs hall' ⟨x, rfl, gv, hv, hf, hw, hqa⟩
  have hl1 : ∀ j, j < n → listed.getD j false = true := fun j hj => by
   have h1 := hall' j hj
   have hl : j < listed.size := by omega
   simp [hl] at h1 ⊢
   exact h1
  obtain ⟨v0, b, w1, w2, w3, w4, w5, wo, w6, w7⟩ := hw (hl1 q hqn)
  exact hend x v v0 b gv w1 w2 w3 w4 w5 wo w6 (fun j F hj h1 hF => w7 j F hj h1 (hl1 j hj) hF)

end Go.Proofs.Ytoihnilgmdcndaa

namespace Go.Proofs.Ytoihnilgmdcndaa
set_option linter.unusedVariables false
set_option linter.unusedSimpArgs false
open Go.RowKit

set_option maxRecDepth 100000 in
set_option maxHeartbeats 16000000 in
theorem least_core (x0 x1 x2 x3 x4 x5 x6 x7 x8 x9 x10 x11 x12 x13 x14 x15 x16 : Value) (wh : Int) (hwh : By wh) (a0 a1 a2 a3 g0 g1 t0 t1 s0 s1 hei : Int) (o : Bool) (cl ch mid : Int) (W : Wi) (m0 m1 m2 m3 u0 u1 v0 v1 mh ms n0 n1 n2 n3 k0 k1 j0 j1 nh ns : Int)
  (HS : Hid (Sheet4 a0 a1 a0 a1 t0 t1 s0 s1 hei o)) (HK : Hid (Cal4 cl ch)) (HM : Hid ((cl + ch) / 2 = mid ∧ cl ≤ mid ∧ mid ≤ ch))
  (SB : Hid (∀ v, Calls Try.prog 39 #[.agg #[x0, x1, x2, x3, x4, x5, x6, x7, x8, x9, x10, x11, x12, x13, x14, x15, x16]] v (BlankNew a0 a1 a2 a3 g0 g1 s0 s1 hei o v)))
  (TW : Hid (∀ pa ta ba pc tc bc v, IRow v pa [a0, a1, a2, a3] → IRow v ta [g0, g1] → IRow v ba [s0, s1] → Calls Try.prog 38 #[.agg #[.int .i64 30, .slice pa 4 pc, .int .i64 hei, .slice ta 2 tc, .slice ba 2 bc, .int .i64 9, .bool o]] v (TwinAt a0 a1 t0 t1 hei o ba bc v)))
  (SC : Hid (∀ v, Calls Try.prog 40 #[.agg #[x0, x1, x2, x3, x4, x5, x6, x7, x8, x9, x10, x11, x12, x13, x14, x15, x16]] v fun e w' => e = .returned (.agg #[.int .i64 cl, .int .i64 ch]) ∧ Gr v w'))
  (WI : Hid (∀ pa ta ba pc tc bc v, IRow v pa [a0, a1, a0, a1] → IRow v ta [t0, t1] → IRow v ba [s0, s1] → Calls Try.prog 41 #[.agg #[x0, x1, x2, x3, x4, x5, x6, x7, x8, x9, x10, x11, x12, x13, x14, x15, x16], .agg #[.int .i64 30, .slice pa 4 pc, .int .i64 hei, .slice ta 2 tc, .slice ba 2 bc, .int .i64 9, .bool o], .agg #[.int .i64 cl, .int .i64 ch]] v fun e w' => e = .returned (.agg #[.int .i64 W.ll, .int .i64 W.lh, .int .i64 W.wl, .int .i64 W.wh, .int .i64 W.hl, .int .i64 W.hh, .int .i64 W.ol, .int .i64 W.oh, .int .i64 W.il, .int .i64 W.ih, .bool W.wo]) ∧ Gr v w'))
  (BF : Hid (∀ v, Calls Try.prog 29 #[.agg #[.int .i64 W.ll, .int .i64 W.lh, .int .i64 W.wl, .int .i64 W.wh, .int .i64 W.hl, .int .i64 W.hh, .int .i64 W.ol, .int .i64 W.oh, .int .i64 W.il, .int .i64 W.ih, .bool W.wo], .agg #[.int .i64 cl, .int .i64 ch], .int .i64 30] v (BlankFound m0 m1 m2 m3 u0 u1 v0 v1 mh ms o v)))
  (BG : Hid (∀ v, Calls Try.prog 29 #[.agg #[.int .i64 W.ll, .int .i64 W.lh, .int .i64 W.wl, .int .i64 W.wh, .int .i64 W.hl, .int .i64 W.hh, .int .i64 W.ol, .int .i64 W.oh, .int .i64 W.il, .int .i64 W.ih, .bool W.wo], .agg #[.int .i64 cl, .int .i64 mid], .int .i64 30] v (BlankFound n0 n1 n2 n3 k0 k1 j0 j1 nh ns o v)))
  (CF : Hid (∀ pa ta ba pc tc bc v, IRow v pa [m0, m1, m2, m3] → IRow v ta [u0, u1] → IRow v ba [v0, v1] → Calls Try.prog 42 #[.agg #[.int .i64 30, .slice pa 4 pc, .int .i64 mh, .slice ta 2 tc, .slice ba 2 bc, .int .i64 ms, .bool o], .agg #[.int .i64 W.ll, .int .i64 W.lh, .int .i64 W.wl, .int .i64 W.wh, .int .i64 W.hl, .int .i64 W.hh, .int .i64 W.ol, .int .i64 W.oh, .int .i64 W.il, .int .i64 W.ih, .bool W.wo], .agg #[.int .i64 cl, .int .i64 ch]] v (NoBad v)))
  (CN : Hid (∀ l0 l1 l2 l3 i0 i1 i2 i3 lh ls, Less1 m0 m1 m2 m3 u0 u1 v0 v1 mh ms l0 l1 l2 l3 i0 i1 i2 i3 lh ls → ∃ (nb : Nat) (er : Int), ((er = 2 ∧ nb = 0) ∨ (er = 0 ∧ 0 < nb)) ∧ ∀ pa ta ba pc tc bc v, IRow v pa [l0, l1, l2, l3] → IRow v ta [i0, i1] → IRow v ba [i2, i3] → Calls Try.prog 42 #[.agg #[.int .i64 30, .slice pa 4 pc, .int .i64 lh, .slice ta 2 tc, .slice ba 2 bc, .int .i64 ls, .bool o], .agg #[.int .i64 W.ll, .int .i64 W.lh, .int .i64 W.wl, .int .i64 W.wh, .int .i64 W.hl, .int .i64 W.hh, .int .i64 W.ol, .int .i64 W.oh, .int .i64 W.il, .int .i64 W.ih, .bool W.wo], .agg #[.int .i64 cl, .int .i64 ch]] v fun e w' => (∃ a c, e = .returned (.tuple #[.slice a nb c, .int .i64 er])) ∧ Gr v w'))
  (N1 : Hid (inB 0 100000 [m0, m1, m2, m3, u0, u1, v0, v1, mh, ms] = true ∧ inB 0 100000 [a0, a1, a0, a1, t0, t1, s0, s1, hei, 9] = true)) (N2 : Hid (inB 0 100000 [n0, n1, n2, n3, k0, k1, j0, j1, nh, ns] = true ∧ inB 0 100000 [m0, m1, m2, m3, u0, u1, v0, v1, mh, ms] = true))
  (C1 : Hid (cmpL [m0, m1, m2, m3, u0, u1, v0, v1, mh, ms] [a0, a1, a0, a1, t0, t1, s0, s1, hei, 9] ≤ 0)) (C2 : Hid (cmpL [n0, n1, n2, n3, k0, k1, j0, j1, nh, ns] [m0, m1, m2, m3, u0, u1, v0, v1, mh, ms] ≤ 0)) (HO : Hid (W.wo = o)) (w : World) :
  Calls Try.prog 10 #[.agg #[x0, x1, x2, x3, x4, x5, x6, x7, x8, x9, x10, x11, x12, x13, x14, x15, x16], .int .u8 wh] w fun e w' => e = .returned (.bool true) ∧ Gr w w' := by
 have gg := Gr.al w (.cells #[x0, x1, x2, x3, x4, x5, x6, x7, x8, x9, x10, x11, x12, x13, x14, x15, x16] 69)
 have h3 := Box.new w [x0, x1, x2, x3, x4, x5, x6, x7, x8, x9, x10, x11, x12, x13, x14, x15, x16] 69 w.heap.size rfl
 go_enter Try.func10, Try.ntmps10
 go_upto_region 1 with fail
 refine wp_abs (fun U => Gr w U ∧ Box U w.heap.size [x0, x1, x2, x3, x4, x5, x6, x7, x8, x9, x10, x11, x12, x13, x14, x15, x16]) ⟨gg, h3⟩ ?_
 clear gg h3
 rintro U ⟨gU, h3⟩
 refine wp_region_own 7 [(1, 0), (2, 1), (4, 3)] [1, 2] [5, 6] (by decide) (fun x => ⟨#[.agg #[x0, x1, x2, x3, x4, x5, x6, x7, x8, x9, x10, x11, x12, x13, x14, x15, x16], .int .u8 wh, .pointer (some ⟨w.heap.size, 0, none⟩), undef, .bool false, x 5, x 6, undef, undef, undef, undef, undef, undef, undef, undef, undef, undef, undef, undef, undef, x 0, x 1, x 2, x 3, x 4, undef, undef, undef, undef, undef, undef, undef, undef, undef, undef, undef, undef, undef, undef, undef, undef, undef, undef, undef, undef, undef, undef, undef, undef, undef, undef, undef, undef, undef, undef, undef, undef, undef, undef, undef, undef, undef, undef, undef, undef, undef, undef, undef, undef, undef, undef, undef, undef, undef, undef, undef, undef, undef, undef, undef, undef, undef, undef, undef, undef, undef, undef, undef, undef, undef, undef, undef, undef, undef, undef, undef, undef, undef, undef, undef, undef, undef, undef, undef, undef, undef, undef, undef, undef, undef, undef, undef, undef, undef, undef, undef, undef, undef, undef, undef, undef, undef, undef, undef, undef, undef, undef, undef, undef, undef, undef, undef, undef, undef, undef, undef, undef, undef, undef, undef, undef, undef, undef, undef, undef, undef, undef, undef, undef, undef, undef, undef, undef, undef, undef, undef, undef, undef, undef, undef, undef, undef, undef, undef, undef, undef, undef, undef, undef, undef, undef, undef, undef, undef, undef, undef, undef, undef, undef, undef, undef, undef, undef, undef, undef, undef, undef, undef, undef, undef, undef, undef, undef, undef, undef, undef, undef, undef, undef, undef, undef, undef, undef, undef, undef, undef, undef], []⟩) (fun _ => undef) [fun _ x => x = .agg #[x0, x1, x2, x3, x4, x5, x6, x7, x8, x9, x10, x11, x12, x13, x14, x15, x16], fun v x => ∃ ka3 kc3 ka7 kc7 ka11 kc11, x = .agg #[.int .i64 30, .slice ka3 4 kc3, .int .i64 hei, .slice ka7 2 kc7, .slice ka11 2 kc11, .int .i64 9, .bool o] ∧ (IRow v ka3 [a0, a1, a2, a3] ∧ IRow v ka7 [g0, g1] ∧ IRow v ka11 [s0, s1]), fun v x => ∃ P T tc ba bc, x = .agg #[.int .i64 30, .slice (some ⟨P, 0, none⟩) 4 4, .int .i64 hei, .slice (some ⟨T, 0, none⟩) 2 tc, .slice ba 2 bc, .int .i64 9, .bool o] ∧ IRow v (some ⟨P, 0, none⟩) [a0, a1, a0, a1] ∧ IRow v (some ⟨T, 0, none⟩) [t0, t1] ∧ IRow v ba [s0, s1], fun _ x => x = .agg #[x0, x1, x2, x3, x4, x5, x6, x7, x8, x9, x10, x11, x12, x13, x14, x15, x16], fun _ x => x = .agg #[.int .i64 cl, .int .i64 ch], fun v x => ∃ b, x = .pointer (some ⟨b, 0, none⟩) ∧ U.heap.size ≤ b ∧ Own v b [.int .i64 0, .slice none 0 0, .int .i64 0, .slice none 0 0, .slice none 0 0, .int .i64 0, .bool false], fun v x => ∃ b, x = .pointer (some ⟨b, 0, none⟩) ∧ U.heap.size ≤ b ∧ Own v b [.int .i64 0, .int .i64 0]] (by rfl) (by kernel_rfl) (by kernel_rfl) (by kernel_rfl) (stays_cons (Stays.eq _) (stays_cons ((show Stays (fun v x => ∃ ka3 kc3 ka7 kc7 ka11 kc11, x = .agg #[.int .i64 30, .slice ka3 4 kc3, .int .i64 hei, .slice ka7 2 kc7, .slice ka11 2 kc11, .int .i64 9, .bool o] ∧ (IRow v ka3 [a0, a1, a2, a3] ∧ IRow v ka7 [g0, g1] ∧ IRow v ka11 [s0, s1])) from fun v v' x g ⟨a, b, c, d, e, f, h, r1, r2, r3⟩ => ⟨a, b, c, d, e, f, h, r1.grow g, r2.grow g, r3.grow g⟩)) (stays_cons ((show Stays (fun v x => ∃ P T tc ba bc, x = .agg #[.int .i64 30, .slice (some ⟨P, 0, none⟩) 4 4, .int .i64 hei, .slice (some ⟨T, 0, none⟩) 2 tc, .slice ba 2 bc, .int .i64 9, .bool o] ∧ IRow v (some ⟨P, 0, none⟩) [a0, a1, a0, a1] ∧ IRow v (some ⟨T, 0, none⟩) [t0, t1] ∧ IRow v ba [s0, s1]) from fun v v' x g ⟨P, T, t, b, c, h, r1, r2, r3⟩ => ⟨P, T, t, b, c, h, r1.grow g, r2.grow g, r3.grow g⟩)) (stays_cons (Stays.eq _) (stays_cons (Stays.eq _) (stays_cons ((show Stays (fun v x => ∃ b, x = .pointer (some ⟨b, 0, none⟩) ∧ U.heap.size ≤ b ∧ Own v b [.int .i64 0, .slice none 0 0, .int .i64 0, .slice none 0 0, .slice none 0 0, .int .i64 0, .bool false]) from fun v v' x g ⟨b, h, l, o⟩ => ⟨b, h, l, o.keep g⟩)) (stays_cons ((show Stays (fun v x => ∃ b, x = .pointer (some ⟨b, 0, none⟩) ∧ U.heap.size ≤ b ∧ Own v b [.int .i64 0, .int .i64 0]) from fun v v' x g ⟨b, h, l, o⟩ => ⟨b, h, l, o.keep g⟩)) stays_nil))))))) ?step1 ?fin1
 case step1 => as_aux_lemma =>
  rintro i hi x v gv hd K hK
  have hi8 : i = 0 ∨ i = 1 ∨ i = 2 ∨ i = 3 ∨ i = 4 ∨ i = 5 ∨ i = 6 := by omega
  rcases hi8 with rfl | rfl | rfl | rfl | rfl | rfl | rfl
  ·try dsimp only [upd, Nat.reduceBEq, cond_true, cond_false]
   refine wpOp_step rfl (fun K' hK' => ?_)
   rw [if_pos (by rfl)]
   refine wp_load_mid 69 _ rfl w.heap.size 0 (by rfl) [x0, x1, x2, x3, x4, x5, x6, x7, x8, x9, x10, x11, x12, x13, x14, x15, x16] _ (fun j u hu => by rw [Nat.zero_add]; exact (h3.keep gv).2 j u hu) Try.underlying69 rfl (by kernel_rfl) ?_
   exact hK' _ _ (hK _ _ (Below.refl _ _) (at_of rfl (rfl)) (fun h => absurd h (by simp)))
  ·obtain ⟨x, rfl⟩ := upd_of (show x 0 = .agg #[x0, x1, x2, x3, x4, x5, x6, x7, x8, x9, x10, x11, x12, x13, x14, x15, x16] from hd 0 _ (by simp) rfl)
   try dsimp only [upd, Nat.reduceBEq, cond_true, cond_false]
   refine wpOp_step rfl (fun K' hK' => ?_)
   go_simp
   refine (SB.out v).mono ?_
   rintro e v' ⟨w3, b3, w7, b7, w11, b11, rfl, hg, r1, k3, k7, k11⟩
   exact hK' _ _ (hK _ _ hg (at_of rfl (⟨_, _, _, _, _, _, rfl, r1⟩)) (fun _ b hb => .inl (agg_new k3 k7 k11 b hb)))
  ·obtain ⟨ka3, kc3, ka7, kc7, ka11, kc11, e1, r1⟩ := hd 1 _ (by simp) rfl
   obtain ⟨x, rfl⟩ := upd_of (show x 1 = .agg #[.int .i64 30, .slice ka3 4 kc3, .int .i64 hei, .slice ka7 2 kc7, .slice ka11 2 kc11, .int .i64 9, .bool o] from e1)
   try dsimp only [upd, Nat.reduceBEq, cond_true, cond_false]
   refine wpOp_step rfl (fun K' hK' => ?_)
   go_simp
   refine (TW.out _ _ _ _ _ _ v r1.1 r1.2.1 r1.2.2).mono ?_
   rintro e v' ⟨P, T, tc, rfl, hg, rP, rT, lP, lT⟩
   exact hK' _ _ (hK _ _ hg (at_of rfl (⟨_, _, _, _, _, rfl, rP, rT, r1.2.2.grow hg⟩)) (fun _ b hb => (twin_own lP lT hb).imp id (fun h => ⟨by simp, 1, by simp, by simp, three_agg (.inr (.inr h))⟩)))
  ·try dsimp only [upd, Nat.reduceBEq, cond_true, cond_false]
   refine wpOp_step rfl (fun K' hK' => ?_)
   rw [if_pos (by rfl)]
   refine wp_load_mid 69 _ rfl w.heap.size 0 (by rfl) [x0, x1, x2, x3, x4, x5, x6, x7, x8, x9, x10, x11, x12, x13, x14, x15, x16] _ (fun j u hu => by rw [Nat.zero_add]; exact (h3.keep gv).2 j u hu) Try.underlying69 rfl (by kernel_rfl) ?_
   exact hK' _ _ (hK _ _ (Below.refl _ _) (at_of rfl (rfl)) (fun h => absurd h (by simp)))
  ·obtain ⟨x, rfl⟩ := upd_of (show x 3 = .agg #[x0, x1, x2, x3, x4, x5, x6, x7, x8, x9, x10, x11, x12, x13, x14, x15, x16] from hd 3 _ (by simp) rfl)
   try dsimp only [upd, Nat.reduceBEq, cond_true, cond_false]
   refine wpOp_step rfl (fun K' hK' => ?_)
   go_simp
   refine (SC.out v).mono ?_
   rintro e v' ⟨rfl, hg⟩
   exact hK' _ _ (hK _ _ hg (at_of rfl (rfl)) (fun h => absurd h (by simp)))
  ·try dsimp only [upd, Nat.reduceBEq, cond_true, cond_false]
   refine wpOp_step rfl (fun K' hK' => ?_)
   go_simp
   have hg := Gr.al v (.cells #[.int .i64 0, .slice none 0 0, .int .i64 0, .slice none 0 0, .slice none 0 0, .int .i64 0, .bool false] 24)
   exact hK' _ _ (hK _ _ hg (at_of rfl (⟨_, rfl, gv.size, Own.new v [.int .i64 0, .slice none 0 0, .int .i64 0, .slice none 0 0, .slice none 0 0, .int .i64 0, .bool false] 24 v.heap.size rfl⟩)) (fun _ b hb => .inl (by simp [hasB, blkOf] at hb; subst hb; simp)))
  ·try dsimp only [upd, Nat.reduceBEq, cond_true, cond_false]
   refine wpOp_step rfl (fun K' hK' => ?_)
   go_simp
   have hg := Gr.al v (.cells #[.int .i64 0, .int .i64 0] 37)
   exact hK' _ _ (hK _ _ hg (at_of rfl (⟨_, rfl, gv.size, Own.new v [.int .i64 0, .int .i64 0] 37 v.heap.size rfl⟩)) (fun _ b hb => .inl (by simp [hasB, blkOf] at hb; subst hb; simp)))
 case fin1 =>
  rintro x v gv hd hap
  obtain ⟨P, T, tc, ba, bc, e2, r2, r3, r4⟩ := hd 2 _ (by omega) rfl
  obtain ⟨x, rfl⟩ := upd_of (show x 2 = .agg #[.int .i64 30, .slice (some ⟨P, 0, none⟩) 4 4, .int .i64 hei, .slice (some ⟨T, 0, none⟩) 2 tc, .slice ba 2 bc, .int .i64 9, .bool o] from e2)
  obtain ⟨x, rfl⟩ := upd_of (show x 4 = .agg #[.int .i64 cl, .int .i64 ch] from hd 4 _ (by omega) rfl)
  obtain ⟨v5, e5, l5, o5⟩ := hd 5 _ (by omega) rfl
  obtain ⟨x, rfl⟩ := upd_of (show x 5 = .pointer (some ⟨v5, 0, none⟩) from e5)
  obtain ⟨v6, e6, l6, o6⟩ := hd 6 _ (by omega) rfl
  obtain ⟨x, rfl⟩ := upd_of (show x 6 = .pointer (some ⟨v6, 0, none⟩) from e6)
  clear hd
  show wpList Try.prog _ _ (List.drop 7 _) (⟨#[_, _, _, _, _, .pointer (some ⟨v5, 0, none⟩), .pointer (some ⟨v6, 0, none⟩), _, _, _, _, _, _, _, _, _, _, _, _, _, x 0, x 1, .agg #[.int .i64 30, .slice (some ⟨P, 0, none⟩) 4 4, .int .i64 hei, .slice (some ⟨T, 0, none⟩) 2 tc, .slice ba 2 bc, .int .i64 9, .bool o], x 3, .agg #[.int .i64 cl, .int .i64 ch], _, _, _, _, _, _, _, _, _, _, _, _, _, _, _, _, _, _, _, _, _, _, _, _, _, _, _, _, _, _, _, _, _, _, _, _, _, _, _, _, _, _, _, _, _, _, _, _, _, _, _, _, _, _, _, _, _, _, _, _, _, _, _, _, _, _, _, _, _, _, _, _, _, _, _, _, _, _, _, _, _, _, _, _, _, _, _, _, _, _, _, _, _, _, _, _, _, _, _, _, _, _, _, _, _, _, _, _, _, _, _, _, _, _, _, _, _, _, _, _, _, _, _, _, _, _, _, _, _, _, _, _, _, _, _, _, _, _, _, _, _, _, _, _, _, _, _, _, _, _, _, _, _, _, _, _, _, _, _, _, _, _, _, _, _, _, _, _, _, _, _, _, _, _, _, _, _, _, _, _, _, _], []⟩ : Act) v
  simp only [List.drop_succ_cons, List.drop_zero]
  have d56 : v5 ≠ v6 := fun e => hap 5 6 (by simp) (by simp) (by simp) (by omega) (by omega) v6 (by rw [e5, e]; simp [hasB, blkOf]) (by rw [e6]; simp [hasB, blkOf])
  have NA := Lib.hid (show ∀ r, hasB (.agg #[.int .i64 30, .slice (some ⟨P, 0, none⟩) 4 4, .int .i64 hei, .slice (some ⟨T, 0, none⟩) 2 tc, .slice ba 2 bc, .int .i64 9, .bool o]) r → r ≠ v5 ∧ r ≠ v6 from fun r h => ⟨fun e => hap 2 5 (by simp) (by simp) (by simp) (by omega) (by omega) r (by rw [e2]; exact h) (by rw [e5, e]; simp [hasB, blkOf]), fun e => hap 2 6 (by simp) (by simp) (by simp) (by omega) (by omega) r (by rw [e2]; exact h) (by rw [e6, e]; simp [hasB, blkOf])⟩)
  clear hap e2 e5 e6
  have s5_0 := o5.1.2 0 _ rfl
  have z5_0 := o5.2 0
  have s5_1 := o5.1.2 1 _ rfl
  have z5_1 := o5.2 1
  have s5_2 := o5.1.2 2 _ rfl
  have z5_2 := o5.2 2
  have s5_3 := o5.1.2 3 _ rfl
  have z5_3 := o5.2 3
  have s5_4 := o5.1.2 4 _ rfl
  have z5_4 := o5.2 4
  have s5_5 := o5.1.2 5 _ rfl
  have z5_5 := o5.2 5
  have s5_6 := o5.1.2 6 _ rfl
  have z5_6 := o5.2 6
  have s6_0 := o6.1.2 0 _ rfl
  have z6_0 := o6.2 0
  have s6_1 := o6.1.2 1 _ rfl
  have z6_1 := o6.2 1
  go_upto_region 2 with fail
  clear s5_0 z5_0 s5_1 z5_1 s5_2 z5_2 s5_3 z5_3 s5_4 z5_4 s5_5 z5_5 s5_6 z5_6 s6_0 z6_0 s6_1 z6_1
  refine wp_abs (fun Z => Gr U Z ∧ Own Z v5 [.int .i64 30, .slice (some ⟨P, 0, none⟩) 4 4, .int .i64 hei, .slice (some ⟨T, 0, none⟩) 2 tc, .slice ba 2 bc, .int .i64 9, .bool o] ∧ Own Z v6 [.int .i64 cl, .int .i64 ch] ∧ Kx (fun j => j = v5 ∨ j = v6) v Z) ⟨(((((((((gv.setCell (p := ⟨v5, 0, none⟩) l5 _).setCell (p := ⟨v5, 1, none⟩) l5 _).setCell (p := ⟨v5, 2, none⟩) l5 _).setCell (p := ⟨v5, 3, none⟩) l5 _).setCell (p := ⟨v5, 4, none⟩) l5 _).setCell (p := ⟨v5, 5, none⟩) l5 _).setCell (p := ⟨v5, 6, none⟩) l5 _).setCell (p := ⟨v6, 0, none⟩) l6 _).setCell (p := ⟨v6, 1, none⟩) l6 _), (((((((((o5.set (i := 0) (by simp)).set (i := 1) (by simp)).set (i := 2) (by simp)).set (i := 3) (by simp)).set (i := 4) (by simp)).set (i := 5) (by simp)).set (i := 6) (by simp)).other d56).other d56), (((((((((o6.other (Ne.symm d56)).other (Ne.symm d56)).other (Ne.symm d56)).other (Ne.symm d56)).other (Ne.symm d56)).other (Ne.symm d56)).other (Ne.symm d56)).set (i := 0) (by simp)).set (i := 1) (by simp)), ((((((((((Kx.refl _ _).tr (Kx.set (Z := fun j => j = v5 ∨ j = v6) (p := ⟨v5, 0, none⟩) (.inl rfl) _)).tr (Kx.set (Z := fun j => j = v5 ∨ j = v6) (p := ⟨v5, 1, none⟩) (.inl rfl) _)).tr (Kx.set (Z := fun j => j = v5 ∨ j = v6) (p := ⟨v5, 2, none⟩) (.inl rfl) _)).tr (Kx.set (Z := fun j => j = v5 ∨ j = v6) (p := ⟨v5, 3, none⟩) (.inl rfl) _)).tr (Kx.set (Z := fun j => j = v5 ∨ j = v6) (p := ⟨v5, 4, none⟩) (.inl rfl) _)).tr (Kx.set (Z := fun j => j = v5 ∨ j = v6) (p := ⟨v5, 5, none⟩) (.inl rfl) _)).tr (Kx.set (Z := fun j => j = v5 ∨ j = v6) (p := ⟨v5, 6, none⟩) (.inl rfl) _)).tr (Kx.set (Z := fun j => j = v5 ∨ j = v6) (p := ⟨v6, 0, none⟩) (.inr rfl) _)).tr (Kx.set (Z := fun j => j = v5 ∨ j = v6) (p := ⟨v6, 1, none⟩) (.inr rfl) _))⟩ ?_
  clear gv o5 o6
  rintro Z ⟨gZ, oL, oA, KX⟩
  have KX := Lib.hid KX
  have ne3 : ∀ b off, (some ⟨P, 0, none⟩ : Option Addr) = some ⟨b, off, none⟩ → ¬ (b = v5 ∨ b = v6) := fun b off e e2 => by cases e; have h8 := NA.out P (three_agg (.inl rfl)); omega
  have ne7 : ∀ b off, (some ⟨T, 0, none⟩ : Option Addr) = some ⟨b, off, none⟩ → ¬ (b = v5 ∨ b = v6) := fun b off e e2 => by cases e; have h8 := NA.out T (three_agg (.inr (.inl rfl))); omega
  have ne11 : ∀ b off, ba = some ⟨b, off, none⟩ → ¬ (b = v5 ∨ b = v6) := fun b off e e2 => by have h8 := NA.out b (three_agg (.inr (.inr (by rw [e]; rfl)))); omega
  replace r2 := RowOf.kx r2 KX.out ne3
  replace r3 := RowOf.kx r3 KX.out ne7
  replace r4 := RowOf.kx r4 KX.out ne11
  clear KX NA ne3 ne7 ne11
  replace h3 := h3.keep gZ
  replace gU := gU.tr gZ
  have lv5 := l5
  have lv6 := l6
  clear gZ d56 l5 l6
  replace oL := oL.1
  replace oA := oA.1
  have q0 := h3.2 0 _ rfl
  have q1 := h3.2 1 _ rfl
  have q2 := h3.2 2 _ rfl
  have q3 := h3.2 3 _ rfl
  have q4 := h3.2 4 _ rfl
  have q5 := h3.2 5 _ rfl
  have q6 := h3.2 6 _ rfl
  have q7 := h3.2 7 _ rfl
  have q8 := h3.2 8 _ rfl
  have q9 := h3.2 9 _ rfl
  have q10 := h3.2 10 _ rfl
  have q11 := h3.2 11 _ rfl
  have q12 := h3.2 12 _ rfl
  have q13 := h3.2 13 _ rfl
  have q14 := h3.2 14 _ rfl
  have q15 := h3.2 15 _ rfl
  have q16 := h3.2 16 _ rfl
  obtain ⟨b0, b1, b2, b3, b4, b5, b6⟩ := oL.c7
  obtain ⟨c0, c1⟩ := oA.c2
  go_upto_region 3 with (go_at_call 41; refine (WI.out _ _ _ _ _ _ _ r2 r3 r4).mono ?_; rintro e wW ⟨rfl, gW⟩)
  clear b0 b1 b2 b3 b4 b5 b6 c0 c1 q0 q1 q2 q3 q4 q5 q6 q7 q8 q9 q10 q11 q12 q13 q14 q15 q16
  obtain ⟨D, hD⟩ : ∃ D, D = wW.heap.size := ⟨_, rfl⟩
  have oW := Box.new wW [.int .i64 W.ll, .int .i64 W.lh, .int .i64 W.wl, .int .i64 W.wh, .int .i64 W.hl, .int .i64 W.hh, .int .i64 W.ol, .int .i64 W.oh, .int .i64 W.il, .int .i64 W.ih, .bool W.wo] 48 D hD
  rw [← hD]
  refine wp_abs (fun X => Gr Z X ∧ Box X D [.int .i64 W.ll, .int .i64 W.lh, .int .i64 W.wl, .int .i64 W.wh, .int .i64 W.hl, .int .i64 W.hh, .int .i64 W.ol, .int .i64 W.oh, .int .i64 W.il, .int .i64 W.ih, .bool W.wo]) ⟨gW.tr (Gr.al _ _), oW⟩ ?_
  clear gW oW hD h3
  rintro Y ⟨gY, oW⟩
  replace gU := gU.tr gY
  replace oL := oL.keep gY
  replace oA := oA.keep gY
  replace r2 := r2.grow gY
  replace r3 := r3.grow gY
  replace r4 := r4.grow gY
  clear gY
  have q0 := oW.2 0 _ rfl
  have q1 := oW.2 1 _ rfl
  have q2 := oW.2 2 _ rfl
  have q3 := oW.2 3 _ rfl
  have q4 := oW.2 4 _ rfl
  have q5 := oW.2 5 _ rfl
  have q6 := oW.2 6 _ rfl
  have q7 := oW.2 7 _ rfl
  have q8 := oW.2 8 _ rfl
  have q9 := oW.2 9 _ rfl
  have q10 := oW.2 10 _ rfl
  obtain ⟨c0, c1⟩ := oA.c2
  go_upto_region 4 with (go_at_call 29; refine (BF.out _).mono ?_; rintro e wB ⟨MP, MT, MB, rfl, gB, y3, y7, y11⟩)
  clear c0 c1 q0 q1 q2 q3 q4 q5 q6 q7 q8 q9 q10
  obtain ⟨E, hE⟩ : ∃ E, E = wB.heap.size := ⟨_, rfl⟩
  have oM := Box.new wB [.int .i64 30, .slice (some ⟨MP, 0, none⟩) 4 4, .int .i64 mh, .slice (some ⟨MT, 0, none⟩) 2 2, .slice (some ⟨MB, 0, none⟩) 2 2, .int .i64 ms, .bool o] 24 E hE
  rw [← hE]
  refine wp_abs (fun X => Gr Y X ∧ Box X E [.int .i64 30, .slice (some ⟨MP, 0, none⟩) 4 4, .int .i64 mh, .slice (some ⟨MT, 0, none⟩) 2 2, .slice (some ⟨MB, 0, none⟩) 2 2, .int .i64 ms, .bool o] ∧ IRow X (some ⟨MP, 0, none⟩) [m0, m1, m2, m3] ∧ IRow X (some ⟨MT, 0, none⟩) [u0, u1] ∧ IRow X (some ⟨MB, 0, none⟩) [v0, v1]) ⟨gB.tr (Gr.al _ _), oM, y3.grow (Gr.al _ _), y7.grow (Gr.al _ _), y11.grow (Gr.al _ _)⟩ ?_
  clear gB oM y3 y7 y11 hE
  rintro Y4 ⟨gQ, oM, y3, y7, y11⟩
  replace gU := gU.tr gQ
  replace oL := oL.keep gQ
  replace oA := oA.keep gQ
  replace r2 := r2.grow gQ
  replace r3 := r3.grow gQ
  replace r4 := r4.grow gQ
  replace oW := oW.keep gQ
  clear gQ
  obtain ⟨q1, hq1⟩ : ∃ z, cmpL [m0, m1, m2, m3, u0, u1, v0, v1, mh, ms] [a0, a1, a0, a1, t0, t1, s0, s1, hei, 9] = z := ⟨_, rfl⟩
  have hC1 := C1.out
  rw [hq1] at hC1
  have g1 : ¬ q1 > 0 := by omega
  have CC1 := Lib.hid (compared_any 30 m0 m1 m2 m3 u0 u1 v0 v1 mh ms o (some ⟨MP, 0, none⟩) (some ⟨MT, 0, none⟩) (some ⟨MB, 0, none⟩) 4 2 2 30 a0 a1 a0 a1 t0 t1 s0 s1 hei 9 o (some ⟨P, 0, none⟩) (some ⟨T, 0, none⟩) ba 4 tc bc N1 Y4 y3 y7 y11 r2 r3 r4)
  rw [hq1] at CC1
  have ho : (o != o) = false := by simp
  clear hq1 hC1
  obtain ⟨b0, b1, b2, b3, b4, b5, b6⟩ := oL.c7
  obtain ⟨f0, f1, f2, f3, f4, f5, f6⟩ := oM.c7
  go_upto_region 6 with (go_at_call 46; refine CC1.out.mono ?_; rintro e wC ⟨rfl, gC⟩)
  clear b0 b1 b2 b3 b4 b5 b6 f0 f1 f2 f3 f4 f5 f6 ho g1 CC1
  refine wp_abs (fun Q => Gr Y4 Q) gC ?_
  clear gC
  rintro V gQ
  replace gU := gU.tr gQ
  replace oL := oL.keep gQ
  replace oA := oA.keep gQ
  replace r2 := r2.grow gQ
  replace r3 := r3.grow gQ
  replace r4 := r4.grow gQ
  replace oW := oW.keep gQ
  replace oM := oM.keep gQ
  replace y3 := y3.grow gQ
  replace y7 := y7.grow gQ
  replace y11 := y11.grow gQ
  clear gQ
  refine (show (∀ sa : Nat → Value, Code.wp Try.prog _ _ ⟨#[sa 0, .int .u8 wh, sa 2, sa 3, .bool false, .pointer (some ⟨v5, 0, none⟩), .pointer (some ⟨v6, 0, none⟩), .pointer (some ⟨D, 0, none⟩), .pointer (some ⟨E, 0, none⟩), .int .i64 0, .int .i64 0, undef, undef, undef, undef, undef, undef, undef, undef, undef, sa 20, sa 21, sa 22, sa 23, sa 24, sa 25, sa 26, sa 27, sa 28, sa 29, sa 30, sa 31, sa 32, sa 33, sa 34, sa 35, sa 36, sa 37, sa 38, sa 39, sa 40, sa 41, sa 42, sa 43, sa 44, sa 45, sa 46, sa 47, sa 48, sa 49, sa 50, sa 51, sa 52, sa 53, sa 54, sa 55, sa 56, sa 57, sa 58, sa 59, sa 60, sa 61, sa 62, sa 63, sa 64, sa 65, sa 66, sa 67, sa 68, sa 69, sa 70, sa 71, sa 72, sa 73, sa 74, sa 75, sa 76, sa 77, undef, undef, undef, undef, undef, undef, undef, undef, undef, undef, undef, undef, undef, undef, undef, undef, undef, undef, undef, undef, undef, undef, undef, undef, undef, undef, undef, undef, undef, undef, undef, undef, undef, undef, undef, undef, undef, undef, undef, undef, undef, undef, undef, undef, undef, undef, undef, undef, undef, undef, undef, undef, undef, undef, undef, undef, undef, undef, undef, undef, undef, undef, undef, undef, undef, undef, undef, undef, undef, undef, undef, undef, undef, undef, undef, undef, undef, undef, undef, undef, undef, undef, undef, undef, undef, undef, undef, undef, undef, undef, undef, undef, undef, undef, undef, undef, undef, undef, undef, undef, undef, undef, undef, undef, undef, undef, undef, undef, undef, undef, undef, undef, undef, undef, undef, undef, undef, undef, undef, undef, undef, undef, undef, undef, undef, undef, undef, undef, undef], []⟩ _) → _ from fun h => h ((fun l : List Value => fun i => l.getD i undef) [_, undef, _, _, undef, undef, undef, undef, undef, undef, undef, undef, undef, undef, undef, undef, undef, undef, undef, undef, _, _, _, _, _, _, _, _, _, _, _, _, _, _, _, _, _, _, _, _, _, _, _, _, _, _, _, _, _, _, _, _, _, _, _, _, _, _, _, _, _, _, _, _, _, _, _, _, _, _, _, _, _, _, _, _, _, _])) ?_
  intro sa
  dsimp only
  refine wp_region_facts 9 [(1, 0), (4, 1), (4, 2), (4, 3), (5, 4), (6, 5), (7, 5), (8, 6)] (fun x => ⟨#[sa 0, .int .u8 wh, sa 2, sa 3, .bool false, .pointer (some ⟨v5, 0, none⟩), .pointer (some ⟨v6, 0, none⟩), .pointer (some ⟨D, 0, none⟩), .pointer (some ⟨E, 0, none⟩), .int .i64 0, .int .i64 0, x 8, undef, undef, undef, undef, undef, undef, undef, undef, sa 20, sa 21, sa 22, sa 23, sa 24, sa 25, sa 26, sa 27, sa 28, sa 29, sa 30, sa 31, sa 32, sa 33, sa 34, sa 35, sa 36, sa 37, sa 38, sa 39, sa 40, sa 41, sa 42, sa 43, sa 44, sa 45, sa 46, sa 47, sa 48, sa 49, sa 50, sa 51, sa 52, sa 53, sa 54, sa 55, sa 56, sa 57, sa 58, sa 59, sa 60, sa 61, sa 62, sa 63, sa 64, sa 65, sa 66, sa 67, sa 68, sa 69, sa 70, sa 71, sa 72, sa 73, sa 74, sa 75, sa 76, sa 77, x 5, x 0, x 1, x 2, x 3, x 4, x 6, x 7, undef, undef, undef, undef, undef, undef, undef, undef, undef, undef, undef, undef, undef, undef, undef, undef, undef, undef, undef, undef, undef, undef, undef, undef, undef, undef, undef, undef, undef, undef, undef, undef, undef, undef, undef, undef, undef, undef, undef, undef, undef, undef, undef, undef, undef, undef, undef, undef, undef, undef, undef, undef, undef, undef, undef, undef, undef, undef, undef, undef, undef, undef, undef, undef, undef, undef, undef, undef, undef, undef, undef, undef, undef, undef, undef, undef, undef, undef, undef, undef, undef, undef, undef, undef, undef, undef, undef, undef, undef, undef, undef, undef, undef, undef, undef, undef, undef, undef, undef, undef, undef, undef, undef, undef, undef, undef, undef, undef, undef, undef, undef, undef, undef, undef, undef, undef, undef, undef, undef, undef, undef], []⟩) (fun _ => undef) [fun _ x => x = .agg #[.int .i64 30, .slice (some ⟨MP, 0, none⟩) 4 4, .int .i64 mh, .slice (some ⟨MT, 0, none⟩) 2 2, .slice (some ⟨MB, 0, none⟩) 2 2, .int .i64 ms, .bool o], fun v x => ∃ na3 nc3 na7 nc7 na11 nc11, x = .agg #[.int .i64 30, .slice na3 4 nc3, .int .i64 mh, .slice na7 2 nc7, .slice na11 2 nc11, .int .i64 ms, .bool o] ∧ (IRow v na3 [m0, m1, m2, m3] ∧ IRow v na7 [u0, u1] ∧ IRow v na11 [v0, v1]), fun _ x => x = .agg #[.int .i64 W.ll, .int .i64 W.lh, .int .i64 W.wl, .int .i64 W.wh, .int .i64 W.hl, .int .i64 W.hh, .int .i64 W.ol, .int .i64 W.oh, .int .i64 W.il, .int .i64 W.ih, .bool W.wo], fun _ x => x = .agg #[.int .i64 cl, .int .i64 ch], fun v x => ∃ sl4 cp4, x = .tuple #[.slice sl4 0 cp4, .int .i64 0], fun v x => ∃ sl5 cp5, x = .tuple #[.slice sl5 0 cp5, .int .i64 0], fun v x => ∃ sl6 cp6, x = .slice sl6 0 cp6, fun _ x => x = .int .i64 0, fun v x => ∃ sl8 cp8, x = .slice sl8 0 cp8] (by rfl) (by kernel_rfl) (by kernel_rfl) (by kernel_rfl) (stays_cons (Stays.eq _) (stays_cons ((show Stays (fun v x => ∃ na3 nc3 na7 nc7 na11 nc11, x = .agg #[.int .i64 30, .slice na3 4 nc3, .int .i64 mh, .slice na7 2 nc7, .slice na11 2 nc11, .int .i64 ms, .bool o] ∧ (IRow v na3 [m0, m1, m2, m3] ∧ IRow v na7 [u0, u1] ∧ IRow v na11 [v0, v1])) from fun v v' x g ⟨a, b, c, d, e, f, h, r1, r2, r3⟩ => ⟨a, b, c, d, e, f, h, r1.grow g, r2.grow g, r3.grow g⟩)) (stays_cons (Stays.eq _) (stays_cons (Stays.eq _) (stays_cons ((show Stays (fun v x => ∃ sl4 cp4, x = .tuple #[.slice sl4 0 cp4, .int .i64 0]) from fun v v' x g h => h)) (stays_cons ((show Stays (fun v x => ∃ sl5 cp5, x = .tuple #[.slice sl5 0 cp5, .int .i64 0]) from fun v v' x g h => h)) (stays_cons ((show Stays (fun v x => ∃ sl6 cp6, x = .slice sl6 0 cp6) from fun v v' x g h => h)) (stays_cons (Stays.eq _) (stays_cons ((show Stays (fun v x => ∃ sl8 cp8, x = .slice sl8 0 cp8) from fun v v' x g h => h)) stays_nil))))))))) ?step6 ?fin6
  case step6 => as_aux_lemma =>
   rintro i hi x v gv hd K hK
   have hi8 : i = 0 ∨ i = 1 ∨ i = 2 ∨ i = 3 ∨ i = 4 ∨ i = 5 ∨ i = 6 ∨ i = 7 ∨ i = 8 := by omega
   rcases hi8 with rfl | rfl | rfl | rfl | rfl | rfl | rfl | rfl | rfl
   ·try dsimp only [upd, Nat.reduceBEq, cond_true, cond_false]
    refine wpOp_step rfl (fun K' hK' => ?_)
    rw [if_pos (by rfl)]
    refine wp_load_mid 24 _ rfl E 0 (by rfl) [.int .i64 30, .slice (some ⟨MP, 0, none⟩) 4 4, .int .i64 mh, .slice (some ⟨MT, 0, none⟩) 2 2, .slice (some ⟨MB, 0, none⟩) 2 2, .int .i64 ms, .bool o] _ (fun j u hu => by rw [Nat.zero_add]; exact (oM.keep gv).2 j u hu) Try.underlying24 rfl (by kernel_rfl) ?_
    exact hK' _ _ (hK _ _ (Below.refl _ _) (at_of rfl (rfl)))
   ·obtain ⟨x, rfl⟩ := upd_of (show x 0 = .agg #[.int .i64 30, .slice (some ⟨MP, 0, none⟩) 4 4, .int .i64 mh, .slice (some ⟨MT, 0, none⟩) 2 2, .slice (some ⟨MB, 0, none⟩) 2 2, .int .i64 ms, .bool o] from hd 0 _ (by simp) rfl)
    try dsimp only [upd, Nat.reduceBEq, cond_true, cond_false]
    refine wpOp_step rfl (fun K' hK' => ?_)
    go_simp
    refine (ownSlo_any m0 m1 m2 m3 u0 u1 v0 v1 mh ms o _ _ _ _ _ _ v (y3.grow gv) (y7.grow gv) (y11.grow gv)).mono ?_
    rintro e v' ⟨_, _, _, _, _, _, rfl, hg, ⟨w1, w2, w3⟩, _⟩
    exact hK' _ _ (hK _ _ hg (at_of rfl (⟨_, _, _, _, _, _, rfl, Own.row (l := [m0, m1, m2, m3]) w1 (by simp), Own.row (l := [u0, u1]) w2 (by simp), Own.row (l := [v0, v1]) w3 (by simp)⟩)))
   ·try dsimp only [upd, Nat.reduceBEq, cond_true, cond_false]
    refine wpOp_step rfl (fun K' hK' => ?_)
    rw [if_pos (by rfl)]
    refine wp_load_mid 48 _ rfl D 0 (by rfl) [.int .i64 W.ll, .int .i64 W.lh, .int .i64 W.wl, .int .i64 W.wh, .int .i64 W.hl, .int .i64 W.hh, .int .i64 W.ol, .int .i64 W.oh, .int .i64 W.il, .int .i64 W.ih, .bool W.wo] _ (fun j u hu => by rw [Nat.zero_add]; exact (oW.keep gv).2 j u hu) Try.underlying48 rfl (by kernel_rfl) ?_
    exact hK' _ _ (hK _ _ (Below.refl _ _) (at_of rfl (rfl)))
   ·try dsimp only [upd, Nat.reduceBEq, cond_true, cond_false]
    refine wpOp_step rfl (fun K' hK' => ?_)
    rw [if_pos (by rfl)]
    refine wp_load_mid 37 _ rfl v6 0 (by rfl) [.int .i64 cl, .int .i64 ch] _ (fun j u hu => by rw [Nat.zero_add]; exact (oA.keep gv).2 j u hu) Try.underlying37 rfl (by kernel_rfl) ?_
    exact hK' _ _ (hK _ _ (Below.refl _ _) (at_of rfl (rfl)))
   ·obtain ⟨na3, nc3, na7, nc7, na11, nc11, e1, r1_⟩ := hd 1 _ (by simp) rfl
    obtain ⟨x, rfl⟩ := upd_of (show x 1 = .agg #[.int .i64 30, .slice na3 4 nc3, .int .i64 mh, .slice na7 2 nc7, .slice na11 2 nc11, .int .i64 ms, .bool o] from e1)
    obtain ⟨x, rfl⟩ := upd_of (show x 2 = .agg #[.int .i64 W.ll, .int .i64 W.lh, .int .i64 W.wl, .int .i64 W.wh, .int .i64 W.hl, .int .i64 W.hh, .int .i64 W.ol, .int .i64 W.oh, .int .i64 W.il, .int .i64 W.ih, .bool W.wo] from hd 2 _ (by simp) rfl)
    obtain ⟨x, rfl⟩ := upd_of (show x 3 = .agg #[.int .i64 cl, .int .i64 ch] from hd 3 _ (by simp) rfl)
    try dsimp only [upd, Nat.reduceBEq, cond_true, cond_false]
    refine wpOp_step rfl (fun K' hK' => ?_)
    go_simp
    refine (CF.out _ _ _ _ _ _ v r1_.1 r1_.2.1 r1_.2.2).mono ?_
    rintro e v' ⟨a9, c9, rfl, hg⟩
    exact hK' _ _ (hK _ _ hg (at_of rfl (⟨_, _, rfl⟩)))
   ·obtain ⟨sl4, cp4, e4⟩ := hd 4 _ (by simp) rfl
    obtain ⟨x, rfl⟩ := upd_of (show x 4 = .tuple #[.slice sl4 0 cp4, .int .i64 0] from e4)
    try dsimp only [upd, Nat.reduceBEq, cond_true, cond_false]
    refine wpOp_step rfl (fun K' hK' => ?_)
    go_simp
    exact hK' _ _ (hK _ _ (Below.refl _ _) (at_of rfl (⟨_, _, rfl⟩)))
   ·obtain ⟨sl5, cp5, e5⟩ := hd 5 _ (by simp) rfl
    obtain ⟨x, rfl⟩ := upd_of (show x 5 = .tuple #[.slice sl5 0 cp5, .int .i64 0] from e5)
    try dsimp only [upd, Nat.reduceBEq, cond_true, cond_false]
    refine wpOp_step rfl (fun K' hK' => ?_)
    go_simp
    exact hK' _ _ (hK _ _ (Below.refl _ _) (at_of rfl (⟨_, _, rfl⟩)))
   ·obtain ⟨sl5, cp5, e5⟩ := hd 5 _ (by simp) rfl
    obtain ⟨x, rfl⟩ := upd_of (show x 5 = .tuple #[.slice sl5 0 cp5, .int .i64 0] from e5)
    try dsimp only [upd, Nat.reduceBEq, cond_true, cond_false]
    refine wpOp_step rfl (fun K' hK' => ?_)
    go_simp
    exact hK' _ _ (hK _ _ (Below.refl _ _) (at_of rfl (rfl)))
   ·obtain ⟨sl6, cp6, e6⟩ := hd 6 _ (by simp) rfl
    obtain ⟨x, rfl⟩ := upd_of (show x 6 = .slice sl6 0 cp6 from e6)
    try dsimp only [upd, Nat.reduceBEq, cond_true, cond_false]
    refine wpOp_step rfl (fun K' hK' => ?_)
    go_simp
    exact hK' _ _ (hK _ _ (Below.refl _ _) (at_of rfl (⟨_, _, rfl⟩)))
  case fin6 =>
   rintro x v gv hd
   obtain ⟨x, rfl⟩ := upd_of (show x 7 = .int .i64 0 from hd 7 _ (by omega) rfl)
   obtain ⟨sl8, cp8, e8⟩ := hd 8 _ (by omega) rfl
   obtain ⟨x, rfl⟩ := upd_of (show x 8 = .slice sl8 0 cp8 from e8)
   clear hd
   show wpList Try.prog _ _ (List.drop 9 _) (⟨#[_, _, _, _, _, _, _, _, _, _, _, .slice sl8 0 cp8, _, _, _, _, _, _, _, _, _, _, _, _, _, _, _, _, _, _, _, _, _, _, _, _, _, _, _, _, _, _, _, _, _, _, _, _, _, _, _, _, _, _, _, _, _, _, _, _, _, _, _, _, _, _, _, _, _, _, _, _, _, _, _, _, _, _, x 5, x 0, x 1, x 2, x 3, x 4, x 6, .int .i64 0, _, _, _, _, _, _, _, _, _, _, _, _, _, _, _, _, _, _, _, _, _, _, _, _, _, _, _, _, _, _, _, _, _, _, _, _, _, _, _, _, _, _, _, _, _, _, _, _, _, _, _, _, _, _, _, _, _, _, _, _, _, _, _, _, _, _, _, _, _, _, _, _, _, _, _, _, _, _, _, _, _, _, _, _, _, _, _, _, _, _, _, _, _, _, _, _, _, _, _, _, _, _, _, _, _, _, _, _, _, _, _, _, _, _, _, _, _, _, _, _, _], []⟩ : Act) v
   simp only [List.drop_succ_cons, List.drop_zero]
   replace gU := gU.tr gv
   replace oL := oL.keep gv
   replace oA := oA.keep gv
   replace r2 := r2.grow gv
   replace r3 := r3.grow gv
   replace r4 := r4.grow gv
   replace oW := oW.keep gv
   replace oM := oM.keep gv
   replace y3 := y3.grow gv
   replace y7 := y7.grow gv
   replace y11 := y11.grow gv
   clear gv e8
   obtain ⟨f0, f1, f2, f3, f4, f5, f6⟩ := oM.c7
   go_upto_region 10 with (go_at_call 16; refine (ownSlo_any m0 m1 m2 m3 u0 u1 v0 v1 mh ms o _ _ _ _ _ _ _ y3 y7 y11).mono ?_; rintro e wL ⟨w3, lc3, w7, lc7, w11, lc11, rfl, gL, ⟨oK, o7', o11'⟩, ⟨lk3, lk7, lk11⟩, n37, n311, n711⟩)
   clear f0 f1 f2 f3 f4 f5 f6
   obtain ⟨B, hB⟩ : ∃ B, B = wL.heap.size := ⟨_, rfl⟩
   have oV := Own.new wL [.int .i64 30, .slice (some ⟨w3, 0, none⟩) 4 lc3, .int .i64 mh, .slice (some ⟨w7, 0, none⟩) 2 lc7, .slice (some ⟨w11, 0, none⟩) 2 lc11, .int .i64 ms, .bool o] 24 B hB
   have nB3 : B ≠ w3 := by have := oK.1.1; omega
   have nB7 : B ≠ w7 := by have := o7'.1.1; omega
   have nB11 : B ≠ w11 := by have := o11'.1.1; omega
   have lkB : v.heap.size ≤ B := by rw [hB]; exact gL.size
   rw [← hB]
   refine wp_abs (fun X => Gr v X ∧ Own X B [.int .i64 30, .slice (some ⟨w3, 0, none⟩) 4 lc3, .int .i64 mh, .slice (some ⟨w7, 0, none⟩) 2 lc7, .slice (some ⟨w11, 0, none⟩) 2 lc11, .int .i64 ms, .bool o] ∧ Own X w3 [.int .i64 m0, .int .i64 m1, .int .i64 m2, .int .i64 m3] ∧ Own X w7 [.int .i64 u0, .int .i64 u1] ∧ Own X w11 [.int .i64 v0, .int .i64 v1]) ⟨gL.tr (Gr.al _ _), oV, oK.keep (Gr.al _ _), o7'.keep (Gr.al _ _), o11'.keep (Gr.al _ _)⟩ ?_
   clear gL oV oK o7' o11' hB
   rintro X ⟨gX, oV, oK, o7', o11'⟩
   obtain ⟨kk, hkk⟩ : ∃ z, wh % 10 = z := ⟨_, rfl⟩
   obtain ⟨wh1, wh2⟩ := hwh
   have fw0 : IntKind.i64.wrap wh = wh := IntWalk.i64_in _ (by omega)
   have fw1 : wh.tmod 10 = kk := by rw [Int.tmod_eq_emod_of_nonneg (by omega)]; exact hkk
   have hk10 : kk = 0 ∨ kk = 1 ∨ kk = 2 ∨ kk = 3 ∨ kk = 4 ∨ kk = 5 ∨ kk = 6 ∨ kk = 7 ∨ kk = 8 ∨ kk = 9 := by omega
   clear hkk
   go_upto_block 0 with fail
   go_cut [14] from 95 to 140 (fun s14 wx => ∃ l0 l1 l2 l3 i0 i1 i2 i3 lh ls : Int, Less1 m0 m1 m2 m3 u0 u1 v0 v1 mh ms l0 l1 l2 l3 i0 i1 i2 i3 lh ls ∧ Gr v wx ∧ Box wx B [.int .i64 30, .slice (some ⟨w3, 0, none⟩) 4 lc3, .int .i64 lh, .slice (some ⟨w7, 0, none⟩) 2 lc7, .slice (some ⟨w11, 0, none⟩) 2 lc11, .int .i64 ls, .bool o] ∧ IRow wx (some ⟨w3, 0, none⟩) [l0, l1, l2, l3] ∧ IRow wx (some ⟨w7, 0, none⟩) [i0, i1] ∧ IRow wx (some ⟨w11, 0, none⟩) [i2, i3])
   case first =>
    have hN := N1.out.1
    simp only [inB, in1, List.all_cons, List.all_nil, Bool.and_true, Bool.and_eq_true, decide_eq_true_eq] at hN
    obtain ⟨⟨_, j0⟩, ⟨_, j1⟩, ⟨_, j2⟩, ⟨_, j3⟩, ⟨_, j4⟩, ⟨_, j5⟩, ⟨_, j6⟩, ⟨_, j7⟩, ⟨_, j8⟩, ⟨_, j9⟩⟩ := hN
    obtain ⟨e0, e1, e2, e3⟩ := oK.1.c4
    obtain ⟨e4, e5⟩ := o7'.1.c2
    obtain ⟨e6, e7⟩ := o11'.1.c2
    obtain ⟨f0, f1, f2, f3, f4, f5, f6⟩ := oV.1.c7
    rcases hk10 with rfl | rfl | rfl | rfl | rfl | rfl | rfl | rfl | rfl | rfl
    ·have zz := oK.2 0
     have ww : IntKind.i64.wrap (m0 - 1) = m0 - 1 := IntWalk.i64_in _ (by omega)
     go_wp2
     go_meet
     exact ⟨m0 - 1, m1, m2, m3, u0, u1, v0, v1, mh, ms, by unfold Less1; omega, gX.setCell (p := ⟨w3, 0, none⟩) lk3 _, (oV.other (by omega)).1, Own.row (l := [(m0 - 1), m1, m2, m3]) (oK.set (i := 0) (by simp)) (by simp), Own.row (l := [u0, u1]) (o7'.other (by omega)) (by simp), Own.row (l := [v0, v1]) (o11'.other (by omega)) (by simp)⟩
    ·have zz := oK.2 1
     have ww : IntKind.i64.wrap (m1 - 1) = m1 - 1 := IntWalk.i64_in _ (by omega)
     go_wp2
     go_meet
     exact ⟨m0, m1 - 1, m2, m3, u0, u1, v0, v1, mh, ms, by unfold Less1; omega, gX.setCell (p := ⟨w3, 1, none⟩) lk3 _, (oV.other (by omega)).1, Own.row (l := [m0, (m1 - 1), m2, m3]) (oK.set (i := 1) (by simp)) (by simp), Own.row (l := [u0, u1]) (o7'.other (by omega)) (by simp), Own.row (l := [v0, v1]) (o11'.other (by omega)) (by simp)⟩
    ·have zz := oK.2 2
     have ww : IntKind.i64.wrap (m2 - 1) = m2 - 1 := IntWalk.i64_in _ (by omega)
     go_wp2
     go_meet
     exact ⟨m0, m1, m2 - 1, m3, u0, u1, v0, v1, mh, ms, by unfold Less1; omega, gX.setCell (p := ⟨w3, 2, none⟩) lk3 _, (oV.other (by omega)).1, Own.row (l := [m0, m1, (m2 - 1), m3]) (oK.set (i := 2) (by simp)) (by simp), Own.row (l := [u0, u1]) (o7'.other (by omega)) (by simp), Own.row (l := [v0, v1]) (o11'.other (by omega)) (by simp)⟩
    ·have zz := oK.2 3
     have ww : IntKind.i64.wrap (m3 - 1) = m3 - 1 := IntWalk.i64_in _ (by omega)
     go_wp2
     go_meet
     exact ⟨m0, m1, m2, m3 - 1, u0, u1, v0, v1, mh, ms, by unfold Less1; omega, gX.setCell (p := ⟨w3, 3, none⟩) lk3 _, (oV.other (by omega)).1, Own.row (l := [m0, m1, m2, (m3 - 1)]) (oK.set (i := 3) (by simp)) (by simp), Own.row (l := [u0, u1]) (o7'.other (by omega)) (by simp), Own.row (l := [v0, v1]) (o11'.other (by omega)) (by simp)⟩
    ·have zz := o7'.2 0
     have ww : IntKind.i64.wrap (u0 - 1) = u0 - 1 := IntWalk.i64_in _ (by omega)
     go_wp2
     go_meet
     exact ⟨m0, m1, m2, m3, u0 - 1, u1, v0, v1, mh, ms, by unfold Less1; omega, gX.setCell (p := ⟨w7, 0, none⟩) lk7 _, (oV.other (by omega)).1, Own.row (l := [m0, m1, m2, m3]) (oK.other (by omega)) (by simp), Own.row (l := [(u0 - 1), u1]) (o7'.set (i := 0) (by simp)) (by simp), Own.row (l := [v0, v1]) (o11'.other (by omega)) (by simp)⟩
    ·have zz := o7'.2 1
     have ww : IntKind.i64.wrap (u1 - 1) = u1 - 1 := IntWalk.i64_in _ (by omega)
     go_wp2
     go_meet
     exact ⟨m0, m1, m2, m3, u0, u1 - 1, v0, v1, mh, ms, by unfold Less1; omega, gX.setCell (p := ⟨w7, 1, none⟩) lk7 _, (oV.other (by omega)).1, Own.row (l := [m0, m1, m2, m3]) (oK.other (by omega)) (by simp), Own.row (l := [u0, (u1 - 1)]) (o7'.set (i := 1) (by simp)) (by simp), Own.row (l := [v0, v1]) (o11'.other (by omega)) (by simp)⟩
    ·have zz := o11'.2 0
     have ww : IntKind.i64.wrap (v0 - 1) = v0 - 1 := IntWalk.i64_in _ (by omega)
     go_wp2
     go_meet
     exact ⟨m0, m1, m2, m3, u0, u1, v0 - 1, v1, mh, ms, by unfold Less1; omega, gX.setCell (p := ⟨w11, 0, none⟩) lk11 _, (oV.other (by omega)).1, Own.row (l := [m0, m1, m2, m3]) (oK.other (by omega)) (by simp), Own.row (l := [u0, u1]) (o7'.other (by omega)) (by simp), Own.row (l := [(v0 - 1), v1]) (o11'.set (i := 0) (by simp)) (by simp)⟩
    ·have zz := o11'.2 1
     have ww : IntKind.i64.wrap (v1 - 1) = v1 - 1 := IntWalk.i64_in _ (by omega)
     go_wp2
     go_meet
     exact ⟨m0, m1, m2, m3, u0, u1, v0, v1 - 1, mh, ms, by unfold Less1; omega, gX.setCell (p := ⟨w11, 1, none⟩) lk11 _, (oV.other (by omega)).1, Own.row (l := [m0, m1, m2, m3]) (oK.other (by omega)) (by simp), Own.row (l := [u0, u1]) (o7'.other (by omega)) (by simp), Own.row (l := [v0, (v1 - 1)]) (o11'.set (i := 1) (by simp)) (by simp)⟩
    ·have zz := oV.2 2
     have ww : IntKind.i64.wrap (mh - 1) = mh - 1 := IntWalk.i64_in _ (by omega)
     go_wp2
     go_meet
     exact ⟨m0, m1, m2, m3, u0, u1, v0, v1, mh - 1, ms, by unfold Less1; omega, gX.setCell (p := ⟨B, 2, none⟩) lkB _, (oV.set (i := 2) (by simp)).1, Own.row (l := [m0, m1, m2, m3]) (oK.other (by omega)) (by simp), Own.row (l := [u0, u1]) (o7'.other (by omega)) (by simp), Own.row (l := [v0, v1]) (o11'.other (by omega)) (by simp)⟩
    ·have zz := oV.2 5
     have ww : IntKind.i64.wrap (ms - 1) = ms - 1 := IntWalk.i64_in _ (by omega)
     go_wp2
     go_meet
     exact ⟨m0, m1, m2, m3, u0, u1, v0, v1, mh, ms - 1, by unfold Less1; omega, gX.setCell (p := ⟨B, 5, none⟩) lkB _, (oV.set (i := 5) (by simp)).1, Own.row (l := [m0, m1, m2, m3]) (oK.other (by omega)) (by simp), Own.row (l := [u0, u1]) (o7'.other (by omega)) (by simp), Own.row (l := [v0, v1]) (o11'.other (by omega)) (by simp)⟩
   case rest =>
    obtain ⟨l0, l1, l2, l3, i0, i1, i2, i3, lh, ls, hl1, gX, oV, k3, k7, k11⟩ := hcut
    replace gU := gU.tr gX; replace oL := oL.keep gX; replace oA := oA.keep gX; replace r2 := r2.grow gX; replace r3 := r3.grow gX; replace r4 := r4.grow gX; replace oW := oW.keep gX; replace oM := oM.keep gX; replace y3 := y3.grow gX; replace y7 := y7.grow gX; replace y11 := y11.grow gX
    clear gX oK o7' o11' wh1 wh2 fw0 fw1
    obtain ⟨nb, er, hne, CNx⟩ := CN.out _ _ _ _ _ _ _ _ _ _ hl1
    replace CNx := Lib.hid CNx
    clear hl1 CN
    go_upto_region 20 with fail
    have q0 := oW.2 0 _ rfl
    have q1 := oW.2 1 _ rfl
    have q2 := oW.2 2 _ rfl
    have q3 := oW.2 3 _ rfl
    have q4 := oW.2 4 _ rfl
    have q5 := oW.2 5 _ rfl
    have q6 := oW.2 6 _ rfl
    have q7 := oW.2 7 _ rfl
    have q8 := oW.2 8 _ rfl
    have q9 := oW.2 9 _ rfl
    have q10 := oW.2 10 _ rfl
    obtain ⟨c0, c1⟩ := oA.c2
    obtain ⟨f0, f1, f2, f3, f4, f5, f6⟩ := oV.c7
    go_upto_region 21 with (go_at_call 42; refine (CNx.out _ _ _ _ _ _ _ k3 k7 k11).mono ?_; rintro e wC ⟨⟨a9, c9, rfl⟩, gC⟩)
    clear c0 c1 f0 f1 f2 f3 f4 f5 f6 CNx k3 k7 k11 oV q0 q1 q2 q3 q4 q5 q6 q7 q8 q9 q10
    refine wp_abs (fun Q => Gr wc Q) gC ?_
    clear gC
    rintro we gQ
    replace gU := gU.tr gQ; replace oL := oL.keep gQ; replace oA := oA.keep gQ; replace r2 := r2.grow gQ; replace r3 := r3.grow gQ; replace r4 := r4.grow gQ; replace oW := oW.keep gQ; replace oM := oM.keep gQ; replace y3 := y3.grow gQ; replace y7 := y7.grow gQ; replace y11 := y11.grow gQ
    clear gQ
    have hnb : er = 0 → ¬ ((nb : Int) = 0) := fun h => by omega
    go_cut [162] from 148 to 161 (fun s162 wx => s162 = .bool false ∧ we = wx)
    case first =>
     rcases hne with ⟨rfl, rfl⟩ | ⟨rfl, hn⟩
     ·go_wp2_with fail
      go_meet
      exact ⟨rfl, rfl⟩
     ·have hz := hnb rfl
      clear hnb
      go_wp2_with fail
      go_meet
      exact ⟨congrArg Value.bool (beq_eq_false_iff_ne.2 hz), rfl⟩
    case rest =>
     obtain ⟨rfl, rfl⟩ := hcut
     clear hne hnb
     go_upto_region 23 with fail
     obtain ⟨hmid, hm0, hm1⟩ := HM.out
     obtain ⟨hk0, hk1, hk2⟩ := HK.out
     have z0 : IntKind.i64.wrap (cl + ch) = cl + ch := IntWalk.i64_in _ (by omega)
     have z1 : (cl + ch).tdiv 2 = mid := by rw [Int.tdiv_eq_ediv_of_nonneg (by omega)]; exact hmid
     have z2 : IntKind.i64.wrap mid = mid := IntWalk.i64_in _ (by omega)
     clear hmid hm0 hm1 hk0 hk1 hk2
     refine (show (∀ sc : Nat → Value, Code.wp Try.prog _ _ ⟨#[sc 0, .int .u8 wh, sc 2, sc 3, .bool false, sc 5, .pointer (some ⟨v6, 0, none⟩), .pointer (some ⟨D, 0, none⟩), .pointer (some ⟨E, 0, none⟩), sc 9, sc 10, sc 11, sc 12, sc 13, sc 14, sc 15, sc 16, undef, undef, undef, sc 20, sc 21, sc 22, sc 23, sc 24, sc 25, sc 26, sc 27, sc 28, sc 29, sc 30, sc 31, sc 32, sc 33, sc 34, sc 35, sc 36, sc 37, sc 38, sc 39, sc 40, sc 41, sc 42, sc 43, sc 44, sc 45, sc 46, sc 47, sc 48, sc 49, sc 50, sc 51, sc 52, sc 53, sc 54, sc 55, sc 56, sc 57, sc 58, sc 59, sc 60, sc 61, sc 62, sc 63, sc 64, sc 65, sc 66, sc 67, sc 68, sc 69, sc 70, sc 71, sc 72, sc 73, sc 74, sc 75, sc 76, sc 77, sc 78, sc 79, sc 80, sc 81, sc 82, sc 83, sc 84, sc 85, sc 86, sc 87, sc 88, sc 89, sc 90, sc 91, sc 92, sc 93, sc 94, sc 95, sc 96, sc 97, sc 98, sc 99, sc 100, sc 101, sc 102, sc 103, sc 104, sc 105, sc 106, sc 107, sc 108, sc 109, sc 110, sc 111, sc 112, sc 113, sc 114, sc 115, sc 116, sc 117, sc 118, sc 119, sc 120, sc 121, sc 122, sc 123, sc 124, sc 125, sc 126, sc 127, sc 128, sc 129, sc 130, sc 131, sc 132, sc 133, sc 134, sc 135, sc 136, sc 137, sc 138, sc 139, sc 140, sc 141, sc 142, sc 143, sc 144, sc 145, sc 146, sc 147, sc 148, sc 149, sc 150, sc 151, sc 152, sc 153, sc 154, sc 155, sc 156, sc 157, sc 158, sc 159, sc 160, sc 161, sc 162, undef, undef, undef, undef, undef, undef, undef, undef, undef, undef, undef, undef, undef, undef, undef, undef, undef, undef, undef, undef, undef, undef, undef, undef, undef, undef, undef, undef, undef, undef, undef, undef, undef, undef, undef, undef, undef, undef, undef, undef, undef, undef, undef, undef], []⟩ _) → _ from fun h => h ((fun l : List Value => fun i => l.getD i undef) [_, undef, _, _, undef, _, undef, undef, undef, _, _, _, _, _, _, _, _, undef, undef, undef, _, _, _, _, _, _, _, _, _, _, _, _, _, _, _, _, _, _, _, _, _, _, _, _, _, _, _, _, _, _, _, _, _, _, _, _, _, _, _, _, _, _, _, _, _, _, _, _, _, _, _, _, _, _, _, _, _, _, _, _, _, _, _, _, _, _, _, _, _, _, _, _, _, _, _, _, _, _, _, _, _, _, _, _, _, _, _, _, _, _, _, _, _, _, _, _, _, _, _, _, _, _, _, _, _, _, _, _, _, _, _, _, _, _, _, _, _, _, _, _, _, _, _, _, _, _, _, _, _, _, _, _, _, _, _, _, _, _, _, _, _, _, _])) ?_
     intro sc
     dsimp only
     refine wp_region_late3 18 15 16 12 [13, 14, 17] [.int .i64 0, .slice none 0 0, .int .i64 0, .slice none 0 0, .slice none 0 0, .int .i64 0, .bool false] (fun z => z.cells.toList) 24 [(2, 1), (4, 3), (6, 5), (7, 4), (7, 6), (8, 7), (9, 2), (9, 8), (10, 0), (10, 9), (11, 10), (12, 11), (13, 11), (14, 11), (16, 0), (16, 1), (16, 2), (16, 3), (16, 4), (16, 5), (16, 6), (16, 7), (16, 8), (16, 9), (16, 10), (16, 11), (16, 12), (16, 15), (17, 13)] (fun x => ⟨#[sc 0, .int .u8 wh, sc 2, sc 3, .bool false, sc 5, .pointer (some ⟨v6, 0, none⟩), .pointer (some ⟨D, 0, none⟩), .pointer (some ⟨E, 0, none⟩), sc 9, sc 10, sc 11, sc 12, sc 13, sc 14, sc 15, sc 16, x 15, x 17, undef, sc 20, sc 21, sc 22, sc 23, sc 24, sc 25, sc 26, sc 27, sc 28, sc 29, sc 30, sc 31, sc 32, sc 33, sc 34, sc 35, sc 36, sc 37, sc 38, sc 39, sc 40, sc 41, sc 42, sc 43, sc 44, sc 45, sc 46, sc 47, sc 48, sc 49, sc 50, sc 51, sc 52, sc 53, sc 54, sc 55, sc 56, sc 57, sc 58, sc 59, sc 60, sc 61, sc 62, sc 63, sc 64, sc 65, sc 66, sc 67, sc 68, sc 69, sc 70, sc 71, sc 72, sc 73, sc 74, sc 75, sc 76, sc 77, sc 78, sc 79, sc 80, sc 81, sc 82, sc 83, sc 84, sc 85, sc 86, sc 87, sc 88, sc 89, sc 90, sc 91, sc 92, sc 93, sc 94, sc 95, sc 96, sc 97, sc 98, sc 99, sc 100, sc 101, sc 102, sc 103, sc 104, sc 105, sc 106, sc 107, sc 108, sc 109, sc 110, sc 111, sc 112, sc 113, sc 114, sc 115, sc 116, sc 117, sc 118, sc 119, sc 120, sc 121, sc 122, sc 123, sc 124, sc 125, sc 126, sc 127, sc 128, sc 129, sc 130, sc 131, sc 132, sc 133, sc 134, sc 135, sc 136, sc 137, sc 138, sc 139, sc 140, sc 141, sc 142, sc 143, sc 144, sc 145, sc 146, sc 147, sc 148, sc 149, sc 150, sc 151, sc 152, sc 153, sc 154, sc 155, sc 156, sc 157, sc 158, sc 159, sc 160, sc 161, sc 162, x 11, x 0, x 1, x 2, x 3, x 4, x 5, x 6, x 7, x 8, x 9, x 10, x 12, x 13, x 14, undef, undef, undef, undef, undef, undef, undef, undef, undef, undef, undef, undef, undef, undef, undef, undef, undef, undef, undef, undef, undef, undef, undef, undef, undef, undef, undef, undef, undef], []⟩) (fun _ => undef) [fun _ x => x = .agg #[.int .i64 W.ll, .int .i64 W.lh, .int .i64 W.wl, .int .i64 W.wh, .int .i64 W.hl, .int .i64 W.hh, .int .i64 W.ol, .int .i64 W.oh, .int .i64 W.il, .int .i64 W.ih, .bool W.wo], fun _ x => x = .pointer (some ⟨v6, 0, none⟩), fun _ x => x = .int .i64 cl, fun _ x => x = .pointer (some ⟨v6, 0, none⟩), fun _ x => x = .int .i64 cl, fun _ x => x = .pointer (some ⟨v6, 1, none⟩), fun _ x => x = .int .i64 ch, fun _ x => x = .int .i64 (cl + ch), fun _ x => x = .int .i64 mid, fun _ x => x = .agg #[.int .i64 cl, .int .i64 mid], fun v x => ∃ NP10 NT10 NB10, x = .tuple #[.agg #[.int .i64 30, .slice (some ⟨NP10, 0, none⟩) 4 4, .int .i64 nh, .slice (some ⟨NT10, 0, none⟩) 2 2, .slice (some ⟨NB10, 0, none⟩) 2 2, .int .i64 ns, .bool o], .int .i64 0, .int .i64 0] ∧ (IRow v (some ⟨NP10, 0, none⟩) [n0, n1, n2, n3] ∧ IRow v (some ⟨NT10, 0, none⟩) [k0, k1] ∧ IRow v (some ⟨NB10, 0, none⟩) [j0, j1]), fun v x => ∃ NP11 NT11 NB11, x = .tuple #[.agg #[.int .i64 30, .slice (some ⟨NP11, 0, none⟩) 4 4, .int .i64 nh, .slice (some ⟨NT11, 0, none⟩) 2 2, .slice (some ⟨NB11, 0, none⟩) 2 2, .int .i64 ns, .bool o], .int .i64 0, .int .i64 0] ∧ (IRow v (some ⟨NP11, 0, none⟩) [n0, n1, n2, n3] ∧ IRow v (some ⟨NT11, 0, none⟩) [k0, k1] ∧ IRow v (some ⟨NB11, 0, none⟩) [j0, j1]), fun v x => ∃ NP12 NT12 NB12, x = .agg #[.int .i64 30, .slice (some ⟨NP12, 0, none⟩) 4 4, .int .i64 nh, .slice (some ⟨NT12, 0, none⟩) 2 2, .slice (some ⟨NB12, 0, none⟩) 2 2, .int .i64 ns, .bool o] ∧ (IRow v (some ⟨NP12, 0, none⟩) [n0, n1, n2, n3] ∧ IRow v (some ⟨NT12, 0, none⟩) [k0, k1] ∧ IRow v (some ⟨NB12, 0, none⟩) [j0, j1]), fun _ x => x = .int .i64 0, fun _ x => x = .int .i64 0, fun _ _ => True, fun _ _ => True, fun _ x => x = .int .i64 0] (by rfl) (by kernel_rfl) (by kernel_rfl) (by kernel_rfl) (stays_cons (Stays.eq _) (stays_cons (Stays.eq _) (stays_cons (Stays.eq _) (stays_cons (Stays.eq _) (stays_cons (Stays.eq _) (stays_cons (Stays.eq _) (stays_cons (Stays.eq _) (stays_cons (Stays.eq _) (stays_cons (Stays.eq _) (stays_cons (Stays.eq _) (stays_cons ((show Stays (fun v x => ∃ NP10 NT10 NB10, x = .tuple #[.agg #[.int .i64 30, .slice (some ⟨NP10, 0, none⟩) 4 4, .int .i64 nh, .slice (some ⟨NT10, 0, none⟩) 2 2, .slice (some ⟨NB10, 0, none⟩) 2 2, .int .i64 ns, .bool o], .int .i64 0, .int .i64 0] ∧ (IRow v (some ⟨NP10, 0, none⟩) [n0, n1, n2, n3] ∧ IRow v (some ⟨NT10, 0, none⟩) [k0, k1] ∧ IRow v (some ⟨NB10, 0, none⟩) [j0, j1])) from fun v v' x g ⟨a, b, c, h, r1, r2, r3⟩ => ⟨a, b, c, h, r1.grow g, r2.grow g, r3.grow g⟩)) (stays_cons ((show Stays (fun v x => ∃ NP11 NT11 NB11, x = .tuple #[.agg #[.int .i64 30, .slice (some ⟨NP11, 0, none⟩) 4 4, .int .i64 nh, .slice (some ⟨NT11, 0, none⟩) 2 2, .slice (some ⟨NB11, 0, none⟩) 2 2, .int .i64 ns, .bool o], .int .i64 0, .int .i64 0] ∧ (IRow v (some ⟨NP11, 0, none⟩) [n0, n1, n2, n3] ∧ IRow v (some ⟨NT11, 0, none⟩) [k0, k1] ∧ IRow v (some ⟨NB11, 0, none⟩) [j0, j1])) from fun v v' x g ⟨a, b, c, h, r1, r2, r3⟩ => ⟨a, b, c, h, r1.grow g, r2.grow g, r3.grow g⟩)) (stays_cons ((show Stays (fun v x => ∃ NP12 NT12 NB12, x = .agg #[.int .i64 30, .slice (some ⟨NP12, 0, none⟩) 4 4, .int .i64 nh, .slice (some ⟨NT12, 0, none⟩) 2 2, .slice (some ⟨NB12, 0, none⟩) 2 2, .int .i64 ns, .bool o] ∧ (IRow v (some ⟨NP12, 0, none⟩) [n0, n1, n2, n3] ∧ IRow v (some ⟨NT12, 0, none⟩) [k0, k1] ∧ IRow v (some ⟨NB12, 0, none⟩) [j0, j1])) from fun v v' x g ⟨a, b, c, h, r1, r2, r3⟩ => ⟨a, b, c, h, r1.grow g, r2.grow g, r3.grow g⟩)) (stays_cons (Stays.eq _) (stays_cons (Stays.eq _) (stays_cons (Stays.tr) (stays_cons (Stays.tr) (stays_cons (Stays.eq _) stays_nil)))))))))))))))))) (by decide) (by decide) (by decide) ?step23 ?pa23 ?qa23 ?late23 ?fin23
     case step23 => as_aux_lemma =>
      rintro i hi h1 h2 h3 x v gv hd K hK
      have hi8 : i = 0 ∨ i = 1 ∨ i = 2 ∨ i = 3 ∨ i = 4 ∨ i = 5 ∨ i = 6 ∨ i = 7 ∨ i = 8 ∨ i = 9 ∨ i = 10 ∨ i = 11 ∨ i = 12 := by
       simp only [List.mem_cons, List.not_mem_nil, or_false, not_or] at h3
       omega
      rcases hi8 with rfl | rfl | rfl | rfl | rfl | rfl | rfl | rfl | rfl | rfl | rfl | rfl | rfl
      ·try dsimp only [upd, Nat.reduceBEq, cond_true, cond_false]
       refine wpOp_step rfl (fun K' hK' => ?_)
       rw [if_pos (by rfl)]
       refine wp_load_mid 48 _ rfl D 0 (by rfl) [.int .i64 W.ll, .int .i64 W.lh, .int .i64 W.wl, .int .i64 W.wh, .int .i64 W.hl, .int .i64 W.hh, .int .i64 W.ol, .int .i64 W.oh, .int .i64 W.il, .int .i64 W.ih, .bool W.wo] _ (fun j u hu => by rw [Nat.zero_add]; exact (oW.keep gv).2 j u hu) Try.underlying48 rfl (by kernel_rfl) ?_
       exact hK' _ _ (hK _ _ (Below.refl _ _) (at_of rfl (rfl)))
      ·try dsimp only [upd, Nat.reduceBEq, cond_true, cond_false]
       refine wpOp_step rfl (fun K' hK' => ?_)
       go_simp
       exact hK' _ _ (hK _ _ (Below.refl _ _) (at_of rfl (rfl)))
      ·obtain ⟨x, rfl⟩ := upd_of (show x 1 = .pointer (some ⟨v6, 0, none⟩) from hd 1 _ (by simp) (by decide) (by decide) rfl)
       try dsimp only [upd, Nat.reduceBEq, cond_true, cond_false]
       refine wpOp_step rfl (fun K' hK' => ?_)
       have q := (oA.keep gv).2 0 _ rfl
       go_simp
       exact hK' _ _ (hK _ _ (Below.refl _ _) (at_of rfl (rfl)))
      ·try dsimp only [upd, Nat.reduceBEq, cond_true, cond_false]
       refine wpOp_step rfl (fun K' hK' => ?_)
       go_simp
       exact hK' _ _ (hK _ _ (Below.refl _ _) (at_of rfl (rfl)))
      ·obtain ⟨x, rfl⟩ := upd_of (show x 3 = .pointer (some ⟨v6, 0, none⟩) from hd 3 _ (by simp) (by decide) (by decide) rfl)
       try dsimp only [upd, Nat.reduceBEq, cond_true, cond_false]
       refine wpOp_step rfl (fun K' hK' => ?_)
       have q := (oA.keep gv).2 0 _ rfl
       go_simp
       exact hK' _ _ (hK _ _ (Below.refl _ _) (at_of rfl (rfl)))
      ·try dsimp only [upd, Nat.reduceBEq, cond_true, cond_false]
       refine wpOp_step rfl (fun K' hK' => ?_)
       go_simp
       exact hK' _ _ (hK _ _ (Below.refl _ _) (at_of rfl (rfl)))
      ·obtain ⟨x, rfl⟩ := upd_of (show x 5 = .pointer (some ⟨v6, 1, none⟩) from hd 5 _ (by simp) (by decide) (by decide) rfl)
       try dsimp only [upd, Nat.reduceBEq, cond_true, cond_false]
       refine wpOp_step rfl (fun K' hK' => ?_)
       have q := (oA.keep gv).2 1 _ rfl
       go_simp
       exact hK' _ _ (hK _ _ (Below.refl _ _) (at_of rfl (rfl)))
      ·obtain ⟨x, rfl⟩ := upd_of (show x 4 = .int .i64 cl from hd 4 _ (by simp) (by decide) (by decide) rfl)
       obtain ⟨x, rfl⟩ := upd_of (show x 6 = .int .i64 ch from hd 6 _ (by simp) (by decide) (by decide) rfl)
       try dsimp only [upd, Nat.reduceBEq, cond_true, cond_false]
       refine wpOp_step rfl (fun K' hK' => ?_)
       go_simp
       exact hK' _ _ (hK _ _ (Below.refl _ _) (at_of rfl (rfl)))
      ·obtain ⟨x, rfl⟩ := upd_of (show x 7 = .int .i64 (cl + ch) from hd 7 _ (by simp) (by decide) (by decide) rfl)
       try dsimp only [upd, Nat.reduceBEq, cond_true, cond_false]
       refine wpOp_step rfl (fun K' hK' => ?_)
       go_simp
       exact hK' _ _ (hK _ _ (Below.refl _ _) (at_of rfl (rfl)))
      ·obtain ⟨x, rfl⟩ := upd_of (show x 2 = .int .i64 cl from hd 2 _ (by simp) (by decide) (by decide) rfl)
       obtain ⟨x, rfl⟩ := upd_of (show x 8 = .int .i64 mid from hd 8 _ (by simp) (by decide) (by decide) rfl)
       try dsimp only [upd, Nat.reduceBEq, cond_true, cond_false]
       refine wpOp_step rfl (fun K' hK' => ?_)
       go_simp
       refine (span02_any cl mid v).mono ?_
       rintro e v' ⟨rfl, hg⟩
       exact hK' _ _ (hK _ _ hg (at_of rfl (rfl)))
      ·obtain ⟨x, rfl⟩ := upd_of (show x 0 = .agg #[.int .i64 W.ll, .int .i64 W.lh, .int .i64 W.wl, .int .i64 W.wh, .int .i64 W.hl, .int .i64 W.hh, .int .i64 W.ol, .int .i64 W.oh, .int .i64 W.il, .int .i64 W.ih, .bool W.wo] from hd 0 _ (by simp) (by decide) (by decide) rfl)
       obtain ⟨x, rfl⟩ := upd_of (show x 9 = .agg #[.int .i64 cl, .int .i64 mid] from hd 9 _ (by simp) (by decide) (by decide) rfl)
       try dsimp only [upd, Nat.reduceBEq, cond_true, cond_false]
       refine wpOp_step rfl (fun K' hK' => ?_)
       go_simp
       refine (BG.out v).mono ?_
       rintro e v' ⟨NP, NT, NB, rfl, hg, q1, q2, q3⟩
       exact hK' _ _ (hK _ _ hg (at_of rfl (⟨_, _, _, rfl, q1, q2, q3⟩)))
      ·obtain ⟨NP10, NT10, NB10, e10, rn10⟩ := hd 10 _ (by simp) (by decide) (by decide) rfl
       obtain ⟨x, rfl⟩ := upd_of (show x 10 = .tuple #[.agg #[.int .i64 30, .slice (some ⟨NP10, 0, none⟩) 4 4, .int .i64 nh, .slice (some ⟨NT10, 0, none⟩) 2 2, .slice (some ⟨NB10, 0, none⟩) 2 2, .int .i64 ns, .bool o], .int .i64 0, .int .i64 0] from e10)
       try dsimp only [upd, Nat.reduceBEq, cond_true, cond_false]
       refine wpOp_step rfl (fun K' hK' => ?_)
       go_simp
       exact hK' _ _ (hK _ _ (Below.refl _ _) (at_of rfl (⟨_, _, _, rfl, rn10⟩)))
      ·obtain ⟨NP11, NT11, NB11, e11, rn11⟩ := hd 11 _ (by simp) (by decide) (by decide) rfl
       obtain ⟨x, rfl⟩ := upd_of (show x 11 = .tuple #[.agg #[.int .i64 30, .slice (some ⟨NP11, 0, none⟩) 4 4, .int .i64 nh, .slice (some ⟨NT11, 0, none⟩) 2 2, .slice (some ⟨NB11, 0, none⟩) 2 2, .int .i64 ns, .bool o], .int .i64 0, .int .i64 0] from e11)
       try dsimp only [upd, Nat.reduceBEq, cond_true, cond_false]
       refine wpOp_step rfl (fun K' hK' => ?_)
       go_simp
       exact hK' _ _ (hK _ _ (Below.refl _ _) (at_of rfl (⟨_, _, _, rfl, rn11⟩)))
     case pa23 => as_aux_lemma =>
      rintro x v gv K hK
      show wpOp Try.prog _ _ 15 K (⟨#[_, _, _, _, _, _, _, _, _, _, _, _, _, _, _, _, _, x 15, x 17, _, _, _, _, _, _, _, _, _, _, _, _, _, _, _, _, _, _, _, _, _, _, _, _, _, _, _, _, _, _, _, _, _, _, _, _, _, _, _, _, _, _, _, _, _, _, _, _, _, _, _, _, _, _, _, _, _, _, _, _, _, _, _, _, _, _, _, _, _, _, _, _, _, _, _, _, _, _, _, _, _, _, _, _, _, _, _, _, _, _, _, _, _, _, _, _, _, _, _, _, _, _, _, _, _, _, _, _, _, _, _, _, _, _, _, _, _, _, _, _, _, _, _, _, _, _, _, _, _, _, _, _, _, _, _, _, _, _, _, _, _, _, _, _, x 11, x 0, x 1, x 2, x 3, x 4, x 5, x 6, x 7, x 8, x 9, x 10, x 12, x 13, x 14, _, _, _, _, _, _, _, _, _, _, _, _, _, _, _, _, _, _, _, _, _, _, _, _, _, _, _, _, _], []⟩ : Act) v
      refine wpOp_step rfl (fun K' hK' => ?_)
      go_simp
      exact hK' _ _ hK
     case qa23 => as_aux_lemma =>
      rintro x v bb gv hbb e ho hd K hK
      obtain ⟨NP12, NT12, NB12, e12, rn12⟩ := hd 12 _ (by simp) (by decide) rfl
      obtain ⟨x, rfl⟩ := upd_of (show x 12 = .agg #[.int .i64 30, .slice (some ⟨NP12, 0, none⟩) 4 4, .int .i64 nh, .slice (some ⟨NT12, 0, none⟩) 2 2, .slice (some ⟨NB12, 0, none⟩) 2 2, .int .i64 ns, .bool o] from e12)
      obtain ⟨x, rfl⟩ := upd_of (show x 15 = .pointer (some ⟨bb, 0, none⟩) from by simpa [upd] using e)
      try dsimp only [upd, Nat.reduceBEq, cond_true, cond_false]
      have t0_ := ho.1.2 0 _ rfl
      have f0_ := ho.2 0
      have t1_ := ho.1.2 1 _ rfl
      have f1_ := ho.2 1
      have t2_ := ho.1.2 2 _ rfl
      have f2_ := ho.2 2
      have t3_ := ho.1.2 3 _ rfl
      have f3_ := ho.2 3
      have t4_ := ho.1.2 4 _ rfl
      have f4_ := ho.2 4
      have t5_ := ho.1.2 5 _ rfl
      have f5_ := ho.2 5
      have t6_ := ho.1.2 6 _ rfl
      have f6_ := ho.2 6
      refine wpOp_step rfl (fun K' hK' => ?_)
      go_simp
      exact hK' _ _ (hK _ ((((((((Kx.refl _ _).tr (Kx.set (Z := fun k => k = bb) (p := ⟨bb, 0, none⟩) rfl _)).tr (Kx.set (Z := fun k => k = bb) (p := ⟨bb, 1, none⟩) rfl _)).tr (Kx.set (Z := fun k => k = bb) (p := ⟨bb, 2, none⟩) rfl _)).tr (Kx.set (Z := fun k => k = bb) (p := ⟨bb, 3, none⟩) rfl _)).tr (Kx.set (Z := fun k => k = bb) (p := ⟨bb, 4, none⟩) rfl _)).tr (Kx.set (Z := fun k => k = bb) (p := ⟨bb, 5, none⟩) rfl _)).tr (Kx.set (Z := fun k => k = bb) (p := ⟨bb, 6, none⟩) rfl _)) (((((((ho.set (i := 0) (by simp)).set (i := 1) (by simp)).set (i := 2) (by simp)).set (i := 3) (by simp)).set (i := 4) (by simp)).set (i := 5) (by simp)).set (i := 6) (by simp)))
     case late23 => as_aux_lemma =>
      rintro i hi hm x v gv hd K hK
      simp only [List.mem_cons, List.not_mem_nil, or_false] at hm
      rcases hm with rfl | rfl | rfl
      ·obtain ⟨_, NP11, NT11, NB11, e11, rn11⟩ := hd 11 _ (by simp) (by decide) (by decide) rfl
       obtain ⟨x, rfl⟩ := upd_of (show x 11 = .tuple #[.agg #[.int .i64 30, .slice (some ⟨NP11, 0, none⟩) 4 4, .int .i64 nh, .slice (some ⟨NT11, 0, none⟩) 2 2, .slice (some ⟨NB11, 0, none⟩) 2 2, .int .i64 ns, .bool o], .int .i64 0, .int .i64 0] from e11)
       try dsimp only [upd, Nat.reduceBEq, cond_true, cond_false]
       refine wpOp_step rfl (fun K' hK' => ?_)
       go_simp
       exact hK' _ _ (hK _ (fun F hF v0 => at_of (v := v0) rfl (rfl) F hF))
      ·obtain ⟨_, NP11, NT11, NB11, e11, rn11⟩ := hd 11 _ (by simp) (by decide) (by decide) rfl
       obtain ⟨x, rfl⟩ := upd_of (show x 11 = .tuple #[.agg #[.int .i64 30, .slice (some ⟨NP11, 0, none⟩) 4 4, .int .i64 nh, .slice (some ⟨NT11, 0, none⟩) 2 2, .slice (some ⟨NB11, 0, none⟩) 2 2, .int .i64 ns, .bool o], .int .i64 0, .int .i64 0] from e11)
       try dsimp only [upd, Nat.reduceBEq, cond_true, cond_false]
       refine wpOp_step rfl (fun K' hK' => ?_)
       go_simp
       exact hK' _ _ (hK _ (fun F hF v0 => at_of (v := v0) rfl (rfl) F hF))
      ·obtain ⟨x, rfl⟩ := upd_of (show x 13 = .int .i64 0 from late_of (hd 13 _ (by simp) (by decide) (by decide) rfl) (fun _ h => h))
       try dsimp only [upd, Nat.reduceBEq, cond_true, cond_false]
       refine wpOp_step rfl (fun K' hK' => ?_)
       go_simp
       exact hK' _ _ (hK _ (fun F hF v0 => at_of (v := v0) rfl (rfl) F hF))
     case fin23 =>
      rintro x v u17 v17 gv gu_v17 l_v17 e hz_v17 KX_v17 ho_v17 hd hl
      obtain ⟨NP12, NT12, NB12, e12, rn12⟩ := hd 12 _ (by omega) (by decide) (by decide) (by decide) rfl
      obtain ⟨x, rfl⟩ := upd_of (show x 12 = .agg #[.int .i64 30, .slice (some ⟨NP12, 0, none⟩) 4 4, .int .i64 nh, .slice (some ⟨NT12, 0, none⟩) 2 2, .slice (some ⟨NB12, 0, none⟩) 2 2, .int .i64 ns, .bool o] from e12)
      obtain ⟨x, rfl⟩ := upd_of (show x 14 = .int .i64 0 from late_of (hl 14 _ (by omega) (by decide) rfl) (fun _ h => h))
      obtain ⟨x, rfl⟩ := upd_of (show x 17 = .int .i64 0 from late_of (hl 17 _ (by omega) (by decide) rfl) (fun _ h => h))
      obtain ⟨x, rfl⟩ := upd_of (show x 15 = .pointer (some ⟨v17, 0, none⟩) from by simpa [upd] using e)
      replace ho_v17 : Own v v17 [.int .i64 30, .slice (some ⟨NP12, 0, none⟩) 4 4, .int .i64 nh, .slice (some ⟨NT12, 0, none⟩) 2 2, .slice (some ⟨NB12, 0, none⟩) 2 2, .int .i64 ns, .bool o] := ho_v17
      clear hd hl e
      show wpList Try.prog _ _ (List.drop 18 _) (⟨#[_, _, _, _, _, _, _, _, _, _, _, _, _, _, _, _, _, .pointer (some ⟨v17, 0, none⟩), .int .i64 0, _, _, _, _, _, _, _, _, _, _, _, _, _, _, _, _, _, _, _, _, _, _, _, _, _, _, _, _, _, _, _, _, _, _, _, _, _, _, _, _, _, _, _, _, _, _, _, _, _, _, _, _, _, _, _, _, _, _, _, _, _, _, _, _, _, _, _, _, _, _, _, _, _, _, _, _, _, _, _, _, _, _, _, _, _, _, _, _, _, _, _, _, _, _, _, _, _, _, _, _, _, _, _, _, _, _, _, _, _, _, _, _, _, _, _, _, _, _, _, _, _, _, _, _, _, _, _, _, _, _, _, _, _, _, _, _, _, _, _, _, _, _, _, _, x 11, x 0, x 1, x 2, x 3, x 4, x 5, x 6, x 7, x 8, x 9, x 10, .agg #[.int .i64 30, .slice (some ⟨NP12, 0, none⟩) 4 4, .int .i64 nh, .slice (some ⟨NT12, 0, none⟩) 2 2, .slice (some ⟨NB12, 0, none⟩) 2 2, .int .i64 ns, .bool o], x 13, .int .i64 0, _, _, _, _, _, _, _, _, _, _, _, _, _, _, _, _, _, _, _, _, _, _, _, _, _, _, _, _, _], []⟩ : Act) v
      simp only [List.drop_succ_cons, List.drop_zero]
      replace gU := gU.tr gv; replace oL := oL.keep gv; replace oA := oA.keep gv; replace r2 := r2.grow gv; replace r3 := r3.grow gv; replace r4 := r4.grow gv; replace oW := oW.keep gv; replace oM := oM.keep gv; replace y3 := y3.grow gv; replace y7 := y7.grow gv; replace y11 := y11.grow gv
      clear gv e12
      have nw : ∀ (b : Nat) (l : List Int) (y : Int), IRow u17 (some ⟨b, 0, none⟩) l → l[1]? = some y → b ≠ v17 := fun b l y r h e => by
       subst e
       obtain ⟨b', off, e1, _, q1⟩ := r.get h
       cases e1
       have q2 := hz_v17.1.2 1 _ rfl
       rw [show (0 : Nat) + 1 = 1 from rfl, q2] at q1
       cases q1
      have wP := nw _ _ _ rn12.1 rfl
      have wT := nw _ _ _ rn12.2.1 rfl
      have wB := nw _ _ _ rn12.2.2 rfl
      have p3 := RowOf.kx rn12.1 KX_v17 (fun b off e e2 => by cases e; exact wP e2)
      have p7 := RowOf.kx rn12.2.1 KX_v17 (fun b off e e2 => by cases e; exact wT e2)
      have p11 := RowOf.kx rn12.2.2 KX_v17 (fun b off e e2 => by cases e; exact wB e2)
      clear nw wP wT wB rn12 KX_v17 hz_v17 gu_v17 l_v17
      have oN := ho_v17.1
      clear ho_v17 z0 z1 z2
      obtain ⟨q2, hq2⟩ : ∃ z, cmpL [n0, n1, n2, n3, k0, k1, j0, j1, nh, ns] [m0, m1, m2, m3, u0, u1, v0, v1, mh, ms] = z := ⟨_, rfl⟩
      have hC2 := C2.out
      rw [hq2] at hC2
      have CC2 := Lib.hid (compared_any 30 n0 n1 n2 n3 k0 k1 j0 j1 nh ns o (some ⟨NP12, 0, none⟩) (some ⟨NT12, 0, none⟩) (some ⟨NB12, 0, none⟩) 4 2 2 30 m0 m1 m2 m3 u0 u1 v0 v1 mh ms o (some ⟨MP, 0, none⟩) (some ⟨MT, 0, none⟩) (some ⟨MB, 0, none⟩) 4 2 2 N2 v p3 p7 p11 y3 y7 y11)
      rw [hq2] at CC2
      clear hq2
      obtain ⟨b0, b1, b2, b3, b4, b5, b6⟩ := oN.c7
      obtain ⟨f0, f1, f2, f3, f4, f5, f6⟩ := oM.c7
      go_upto_region 24 with fail
      go_wp2_with (first | (go_at_call 46; refine CC2.out.mono ?_; rintro e wC ⟨rfl, gC⟩; replace gU := gU.tr gC) | (go_at_call 15; refine (known_any _).mono ?_; rintro e w10 ⟨rfl, g10⟩; replace gU := gU.tr g10))
      go_ret
      exact ⟨rfl, gU⟩

end Go.Proofs.Ytoihnilgmdcndaa

namespace Go.Proofs.Ytoihnilgmdcndaa
set_option linter.unusedVariables false
set_option linter.unusedSimpArgs false
open Go.RowKit Go.ChangeShapes

section
variable {H : Type} {enc : TypeId × Value → H} {P : Program} {W W' : World}

theorem trodAll_stays (hl : laidOutB P = true) (g : Gr W W') {sp : Nat → Bool} : ∀ (ts : List TypeId) (vs : List Value) (ds : List (DataW H)) (ps : List MemPlace), (∀ t ∈ ts, P.readableRec t = true ∧ t < P.types.size) →
  DataW.TrodAll enc P W 0 (fun _ => true) true ts vs ds ps → (∀ p ∈ ps, p.block < W.heap.size) → (∀ p ∈ ps, sp p.block = true) → DataW.TrodAll enc P W' 0 sp true ts vs ds ps
 | [], [], [], _, _, h, _, _ => h
 | t :: ts, v :: vs, d :: ds, ps, ht, h, hlt, hsp => by
  obtain ⟨p, q, h1, h2, rfl⟩ := h
  exact ⟨p, q, WideElems.Trod_stays hl (ht t (by simp)).1 (ht t (by simp)).2 h1 (fun x hx => g.same (hlt x (by simp [hx]))) (fun x hx => hsp x (by simp [hx])),
   trodAll_stays hl g ts vs ds q (fun u hu => ht u (by simp [hu])) h2 (fun x hx => hlt x (by simp [hx])) (fun x hx => hsp x (by simp [hx])), rfl⟩

/-- A law that returned true in a world that only grew, its arguments as they were. -/
theorem law_true {f : Func} {s : ChangeSpec} {bt : TypeId} {args : Array Value} {ds : List (DataW H)} {p : List MemPlace}
  (hl : laidOutB P = true) (hpt : ∀ t ∈ f.params.toList, P.readableRec t = true ∧ t < P.types.size) (hbt : P.underlying bt = some .bool) (hrt : f.resultTypes = #[bt]) (hsv : s.vars = [])
  (hs : s.fn H ds = { results := [.lit (.bool true)], args := ds })
  (hW : DataW.Whole enc P f.params.toList s.vars false W args.toList ds [] p) (g : Gr W W') :
  s.post enc P f false true false false W args (.bool true) W' := by
 have hW0 := hW
 obtain ⟨pa, pv, hA, hV, hp, hfz, hnd⟩ := hW0
 rw [hsv] at hV
 have hpv : pv = [] := hV
 subst hpv
 rw [List.append_nil] at hp
 subst hp
 have hold : ∀ x ∈ p, x.block < W.heap.size := fun x hx => hW.lt x hx
 have hargs : ∀ sp : Nat → Bool, (∀ x ∈ p, sp x.block = true) → DataW.TrodAll enc P W' 0 sp true f.params.toList args.toList ds p := fun sp hsp => trodAll_stays hl g _ _ _ _ hpt hA hold hsp
 have hres : ∀ (b : Nat) (sp : Nat → Bool) (hd : Bool), DataW.TrodAll enc P W' b sp hd f.resultTypes.toList ((Value.bool true).resultList f.resultTypes.size) [.lit (.bool true)] [] := fun b sp hd => by
  rw [hrt]
  exact trodAll_cons_mk (shut_bool hbt _) trodAll_mk0
 have hok : ∀ (j : Nat) (t : TypeId) (r : Value), f.resultTypes[j]? = some t → ((Value.bool true).resultList f.resultTypes.size)[j]? = some r → Value.okWide P W' .any 0 t r := ok_one hrt rfl (okWide_bool_mk hbt _)
 have es : s.fn H (ds ++ []) = { results := [.lit (.bool true)], args := ds } := by rw [List.append_nil]; exact hs
 have hsp0 : ∀ x ∈ p, (fun b => decide (b < W.heap.size)) x.block = true := fun x hx => by simpa using hold x hx
 refine ⟨ds, [], p, [], p, [], hW, ?_, ?_, ?_, World.keptBut_mono (fun x hx => hx.elim) (g.frame (fun _ => False)), fun _ => ?_⟩
 ·rw [es]; exact hres _ _ _
 ·rw [es]; exact hargs _ hsp0
 ·rw [es, hsv]; rfl
 ·refine ⟨hok, [.lit (.bool true)] ++ ds, [], ([] ++ p) ++ [], ⟨[] ++ p, [], trodAll_append (hargs (fun _ => true) (fun _ _ => rfl)) (hres _ _ _), ?_, rfl, ?_, ?_⟩, ?_⟩
  ·rw [hsv]; rfl
  ·intro b off hx
   have hx' : MemPlace.cell b off ∈ p := by simpa using hx
   have hb : b < W.heap.size := hold _ hx'
   rw [g.frozen (p := ⟨b, off, none⟩) hb]
   exact hfz b off hx'
  ·intro ha
   cases ha
  ·intro x hx _
   simpa using hx

/-- Made of integers of kind k alone, cell by cell: by looking. -/
def allK (P : Program) (k : IntKind) : Nat → TypeId → Bool
 | 0, _ => false
 | f + 1, t => match P.underlying t with
  | some (.int k') => decide (k' = k) && decide (P.cellsOf t = 1)
  | some (.struct fs) => fs.toList.all (fun x => allK P k f x.type) && (List.range (P.cellsOf t)).all fun i => fs.toList.any fun x => decide (x.offset ≤ i) && decide (i < x.offset + P.cellsOf x.type)
  | some (.array n e) => allK P k f e && (List.range (P.cellsOf t)).all fun i => (List.range n).any fun j => decide (j * P.cellsOf e ≤ i) && decide (i < j * P.cellsOf e + P.cellsOf e)
  | _ => false

theorem piece {cs : List Value} {o n i : Nat} (h1 : o ≤ i) (h2 : i < o + n) : ((cs.drop o).take n)[i - o]? = cs[i]? := by
 rw [List.getElem?_take_of_lt (by omega), List.getElem?_drop, show o + (i - o) = i by omega]

theorem mapM_at {α β : Type} {f : α → Option β} : ∀ (l : List α) (ys : List β), l.mapM f = some ys → ∀ a ∈ l, ∃ y, f a = some y
 | [], _, _, a, ha => by cases ha
 | b :: l, ys, h, a, ha => by
  rw [List.mapM_cons] at h
  cases h1 : f b with
  | none => simp [h1] at h
  | some y =>
   cases h2 : l.mapM f with
   | none => simp [h1, h2] at h
   | some zs =>
    rcases List.mem_cons.1 ha with rfl | ha
    ·exact ⟨y, h1⟩
    ·exact mapM_at l zs h2 a ha

theorem int_open {k : IntKind} {base : Nat} {sp : Nat → Bool} {held : Bool} {t : TypeId} (hu : P.underlying t = some (.int k)) {fuel : Nat} {cs : List Value} {x : DataW H × List MemPlace} (hx : DataW.trod enc P W base sp held fuel t cs = some x) :
  ∃ n, cs = [.int k n] ∧ (Lit.int k n).wf = true := by
 obtain ⟨n, e, _, hw⟩ := DataW.trod_int hu hx
 exact ⟨n, e, hw⟩

theorem allK_open {k : IntKind} {base : Nat} {sp : Nat → Bool} {held : Bool} : ∀ (f : Nat) (t : TypeId), allK P k f t = true → ∀ (fuel : Nat) (cs : List Value) (x : DataW H × List MemPlace), DataW.trod enc P W base sp held fuel t cs = some x →
  cs.length = P.cellsOf t ∧ ∀ i, i < cs.length → ∃ n, cs[i]? = some (.int k n) ∧ (Lit.int k n).wf = true
 | 0, _, h, _, _, _, _ => by simp [allK] at h
 | f + 1, t, h, 0, cs, x, hx => by simp [DataW.trod] at hx
 | f + 1, t, h, fuel + 1, cs, x, hx => by
  unfold allK at h
  split at h
  ·rename_i k' hu
   simp only [Bool.and_eq_true, decide_eq_true_eq] at h
   obtain ⟨rfl, hc⟩ := h
   obtain ⟨n, rfl, hw⟩ := int_open hu hx
   refine ⟨by rw [hc]; rfl, fun i hi => ?_⟩
   obtain rfl : i = 0 := by simpa using hi
   exact ⟨n, rfl, hw⟩
  ·rename_i fs hu
   simp only [Bool.and_eq_true] at h
   obtain ⟨ha, hcov⟩ := h
   unfold DataW.trod at hx
   rw [hu] at hx
   simp only at hx
   split at hx
   case isFalse => cases hx
   rename_i hl
   refine ⟨hl, fun i hi => ?_⟩
   obtain ⟨xs, hxs, _⟩ := Option.map_eq_some_iff.1 hx
   have hci := List.all_eq_true.1 hcov i (by simp; omega)
   obtain ⟨fd, hfd, hin⟩ := List.any_eq_true.1 hci
   simp only [Bool.and_eq_true, decide_eq_true_eq] at hin
   obtain ⟨y, hy⟩ := mapM_at _ _ hxs fd hfd
   obtain ⟨hl', hat⟩ := allK_open f fd.type (List.all_eq_true.1 ha fd hfd) fuel _ y hy
   obtain ⟨n, hn, hw⟩ := hat (i - fd.offset) (by rw [hl']; omega)
   rw [piece hin.1 hin.2] at hn
   exact ⟨n, hn, hw⟩
  ·rename_i m e hu
   simp only [Bool.and_eq_true] at h
   obtain ⟨ha, hcov⟩ := h
   unfold DataW.trod at hx
   rw [hu] at hx
   simp only at hx
   split at hx
   case isFalse => cases hx
   rename_i hl
   refine ⟨hl, fun i hi => ?_⟩
   obtain ⟨xs, hxs, _⟩ := Option.map_eq_some_iff.1 hx
   have hci := List.all_eq_true.1 hcov i (by simp; omega)
   obtain ⟨j, hj, hin⟩ := List.any_eq_true.1 hci
   simp only [Bool.and_eq_true, decide_eq_true_eq] at hin
   obtain ⟨y, hy⟩ := mapM_at _ _ hxs j hj
   obtain ⟨hl', hat⟩ := allK_open f e ha fuel _ y hy
   obtain ⟨n, hn, hw⟩ := hat (i - j * P.cellsOf e) (by rw [hl']; omega)
   rw [piece hin.1 hin.2] at hn
   exact ⟨n, hn, hw⟩
  ·cases h

theorem ints_of {k : IntKind} : ∀ (cs : List Value), (∀ i, i < cs.length → ∃ n, cs[i]? = some (.int k n) ∧ (Lit.int k n).wf = true) → ∃ l : List Int, cs = l.map (Value.int k) ∧ ∀ n ∈ l, (Lit.int k n).wf = true
 | [], _ => ⟨[], rfl, by simp⟩
 | c :: cs, h => by
  obtain ⟨n, hn, hw⟩ := h 0 (by simp)
  obtain ⟨l, rfl, hl⟩ := ints_of cs (fun i hi => by simpa using h (i + 1) (by simpa using hi))
  simp only [List.getElem?_cons_zero, Option.some.injEq] at hn
  subst hn
  refine ⟨n :: l, rfl, fun m hm => ?_⟩
  rcases List.mem_cons.1 hm with rfl | hm
  ·exact hw
  ·exact hl m hm

/-- A struct or array by value, of integers of one kind: its integers. -/
theorem agg_ints {k : IntKind} {base : Nat} {sp : Nat → Bool} {held : Bool} {f : Nat} {t : TypeId} (ha : allK P k f t = true) (hc : P.cellsOf t ≠ 1) {v : Value} {d : DataW H} {ps : List MemPlace} (h : DataW.Trod enc P W base sp held t v d ps) :
  ∃ l : List Int, v = .agg (l.map (Value.int k)).toArray ∧ l.length = P.cellsOf t ∧ ∀ n ∈ l, (Lit.int k n).wf = true := by
 obtain ⟨fuel, hf⟩ := h
 obtain ⟨hl, hat⟩ := allK_open f t ha fuel _ _ hf
 obtain ⟨l, hcs, hw⟩ := ints_of _ hat
 have hlen : l.length = P.cellsOf t := by rw [← hl, hcs]; simp
 refine ⟨l, ?_, hlen, hw⟩
 unfold Value.cells at hcs hl
 split at hcs
 ·rename_i cs
  rw [← hcs]
 ·rename_i hna
  exfalso
  apply hc
  rw [← hlen]
  have := congrArg List.length hcs
  simpa using this.symm

/-- A slice of bytes that came in. -/
theorem row_bytes {e : TypeId} {t : TypeId} {r : Reach} {b0 : Nat} (ht : P.underlying t = some (.slice e)) (he : P.underlying e = some (.int .u8)) (hc : P.cellsOf e = 1) {v : Value} {d : DataW H} {ps : List MemPlace} (hval : Value.okWide P W r b0 t v)
  (h : DataW.Trod enc P W 0 (fun _ => true) true t v d ps) :
  ∃ (a : Option Addr) (l : List Int) (cap : Nat), v = .slice a l.length cap ∧ URow W a l ∧ Bytes l := by
 obtain ⟨fuel, hf⟩ := h
 obtain ⟨a0, len0, cap0, rfl⟩ := Go.WideShapes.okWide_slice ht hval
 rcases open_ints ht he hc hf with ⟨hcs, _⟩ | ⟨a, len, cap, zs, hcs, _, hle, hmax, hlen, _, hcell, hwf⟩
 ·have hcs' : [Value.slice a0 len0 cap0] = [.slice none 0 0] := by simpa [Value.cells] using hcs
  cases hcs'
  exact ⟨none, [], 0, rfl, RowOf.nil, fun x hx => by cases hx⟩
 ·have hcs' : [Value.slice a0 len0 cap0] = [.slice (some a) len cap] := by simpa [Value.cells] using hcs
  cases hcs'
  simp only [if_true] at hlen
  have hl : (zs.take len0).length = len0 := by simp; omega
  refine ⟨some a, zs.take len0, cap0, by rw [hl], ⟨by rw [hl]; exact Nat.le_trans hle hmax, fun j x hx => ?_⟩, fun x hx => bounds_u8 (hwf x (List.mem_of_mem_take hx))⟩
  have hj : j < len0 := by
   have := (List.getElem?_eq_some_iff.1 hx).1
   omega
  have hz : zs[j]? = some x := by
   rw [List.getElem?_take_of_lt hj] at hx
   exact hx
  have h0 := hcell 0 (by omega)
  rw [show a.add 0 = a by simp [Addr.add]] at h0
  have hb := World.block_lt_of_cell? W _ h0
  have hs : a.spot = none := by
   cases hsp : a.spot with
   | none => rfl
   | some q =>
    exfalso
    unfold World.cell? at h0
    split at h0
    ·simp [hsp] at h0
    ·cases h0
  obtain ⟨b, off, sp⟩ := a
  simp only at hs
  subst hs
  have h1 := hcell j (by omega)
  have e1 : zs.getD j 0 = x := by simp [hz]
  rw [e1, show (Addr.mk b off none).add j = ⟨b, off + j, none⟩ by unfold Addr.add; split <;> simp_all] at h1
  refine ⟨b, off, rfl, hb, fun i v hv => ?_⟩
  have hi : i = 0 := by
   have := (List.getElem?_eq_some_iff.1 hv).1
   simpa [encU] using this
  subst hi
  simp [encU] at hv
  subst hv
  simpa using h1

end

end Go.Proofs.Ytoihnilgmdcndaa

namespace Go.Proofs.Ytoihnilgmdcndaa
set_option linter.unusedVariables false
set_option linter.unusedSimpArgs false
open Go.RowKit Go.ChangeShapes

theorem list_of {α : Type} (p : Nat → α → Prop) : ∀ n, (∀ j, j < n → ∃ x, p j x) → ∃ l : List α, l.length = n ∧ ∀ j x, l[j]? = some x → p j x
  | 0, _ => ⟨[], rfl, fun j x h => by simp at h⟩
  | n + 1, h => by
    obtain ⟨l, hl, hp⟩ := list_of p n (fun j hj => h j (by omega))
    obtain ⟨x, hx⟩ := h n (by omega)
    refine ⟨l ++ [x], by simp [hl], fun j y hy => ?_⟩
    by_cases hj : j < l.length
    · rw [List.getElem?_append_left hj] at hy
      exact hp j y hy
    · rw [List.getElem?_append_right (by omega)] at hy
      have h1 := (List.getElem?_eq_some_iff.1 hy).1
      simp at h1
      obtain rfl : j = n := by omega
      simp [hl] at hy
      subst hy
      exact hx

section
variable {H : Type} {enc : TypeId × Value → H} {P : Program} {W : World}

/-- A slice of arrays of integers of one kind. -/
theorem row_flat {α : Type} {en : α → List Value} {G : α → Prop} {e t : TypeId} {k : IntKind} {f sz fuel : Nat} {cs : List Value} {x : DataW H × List MemPlace} (ht : P.underlying t = some (.slice e)) (ha : allK P k f e = true) (hc : P.cellsOf e = sz) (h0 : 0 < sz)
    (hmk : ∀ l : List Int, l.length = sz → (∀ n ∈ l, (Lit.int k n).wf = true) → ∃ y : α, en y = l.map (Value.int k) ∧ G y)
    (hx : DataW.trod enc P W 0 (fun _ => true) true fuel t cs = some x) :
    ∃ (a : Option Addr) (l : List α) (cap : Nat), cs = [.slice a l.length cap] ∧ RowOf sz en W a l ∧ ∀ v ∈ l, G v := by
  rcases DataW.trod_slice ht hx with ⟨h, _⟩ | ⟨a, len, cap, elems, rest, n, _, rfl, _, hb, hl, hm, hlen, hel, _, _⟩
  · exact ⟨none, [], 0, h, RowOf.nil, fun v hv => by cases hv⟩
  have hj : ∀ j, j < len → ∃ y : α, G y ∧ ∃ l : List Int, l.length = sz ∧ en y = l.map (Value.int k) ∧ ∀ i, i < sz → W.cell? ((a.add (j * sz)).add i) = (l.map (Value.int k))[i]? := by
    intro j hj
    have h1 := hel j hj
    rw [List.getElem?_eq_getElem (by omega)] at h1
    obtain ⟨cs', hcs, hy⟩ := Option.bind_eq_some_iff.1 h1
    obtain ⟨hl', hat⟩ := allK_open f e ha _ _ _ hy
    obtain ⟨l, hcl, hw⟩ := ints_of _ hat
    have hll : l.length = sz := by rw [← hc, ← hl', hcl]; simp
    obtain ⟨y, hy1, hy2⟩ := hmk l hll hw
    refine ⟨y, hy2, l, hll, hy1, fun i hi => ?_⟩
    have := (World.cells?_some hcs).2.2 i (by omega)
    rw [hc, hcl] at this
    exact this
  obtain ⟨l, hlen', hp⟩ := list_of _ len hj
  refine ⟨some a, l, cap, by rw [hlen'], ⟨?_, fun j y hy => ?_⟩, fun v hv => ?_⟩
  · rw [hlen']
    have : maxLen ≤ 9223372036854775807 := by decide
    omega
  · obtain ⟨_, li, hli, hen, hcell⟩ := hp j y hy
    have z0 := hcell 0 h0
    have hi0 : (li.map (Value.int k))[0]? = some (.int k (li[0]'(by omega))) := by simp [List.getElem?_eq_getElem (show 0 < li.length by omega)]
    rw [hi0, show (a.add (j * sz)).add 0 = a.add (j * sz) by simp [Addr.add]] at z0
    have hs : a.spot = none := by
      cases hsp : a.spot with
      | none => rfl
      | some q =>
        exfalso
        have hj0 : j < len := by have := (List.getElem?_eq_some_iff.1 hy).1; omega
        obtain ⟨_, _, li0, hli0, _, hc0⟩ := hj 0 (by omega)
        have z1 := hc0 0 h0
        have hi1 : (li0.map (Value.int k))[0]? = some (.int k (li0[0]'(by omega))) := by simp [List.getElem?_eq_getElem (show 0 < li0.length by omega)]
        rw [hi1, show (a.add (0 * sz)).add 0 = a by simp [Addr.add]] at z1
        unfold World.cell? at z1
        split at z1
        · simp [hsp] at z1
        · cases z1
    obtain ⟨b, off, sp⟩ := a
    simp only at hs
    subst hs
    refine ⟨b, off, rfl, ?_, fun i v hv => ?_⟩
    · have := World.block_lt_of_cell? W _ z0
      rw [WideShapes.add_plain] at this
      exact this
    · have hi : i < sz := by
        have := (List.getElem?_eq_some_iff.1 hv).1
        rw [hen] at this
        simpa [hli] using this
      have := hcell i hi
      rw [WideShapes.add_plain, WideShapes.add_plain, ← hen, hv] at this
      exact this
  · obtain ⟨j, hjv⟩ := List.getElem?_of_mem hv
    exact (hp j v hjv).1

/-- A struct of three slices: each by itself. -/
theorem struct3 {t t0 t1 t2 : TypeId} {fs : Array Field} {fuel : Nat} {cs : List Value} {x : DataW H × List MemPlace} (hu : P.underlying t = some (.struct fs)) (ct : P.cellsOf t = 3) (c0 : P.cellsOf t0 = 1) (c1 : P.cellsOf t1 = 1) (c2 : P.cellsOf t2 = 1)
    (m0 : ∃ g ∈ fs.toList, g.type = t0 ∧ g.offset = 0) (m1 : ∃ g ∈ fs.toList, g.type = t1 ∧ g.offset = 1) (m2 : ∃ g ∈ fs.toList, g.type = t2 ∧ g.offset = 2)
    (hx : DataW.trod enc P W 0 (fun _ => true) true fuel t cs = some x) :
    ∃ s0 s1 s2 n x0 x1 x2, cs = [s0, s1, s2] ∧ DataW.trod enc P W 0 (fun _ => true) true n t0 [s0] = some x0 ∧ DataW.trod enc P W 0 (fun _ => true) true n t1 [s1] = some x1 ∧ DataW.trod enc P W 0 (fun _ => true) true n t2 [s2] = some x2 := by
  cases fuel with
  | zero => simp [DataW.trod] at hx
  | succ n =>
    unfold DataW.trod at hx
    rw [hu] at hx
    simp only at hx
    split at hx
    case isFalse => cases hx
    rename_i hl
    obtain ⟨xs, hxs, _⟩ := Option.map_eq_some_iff.1 hx
    rw [ct] at hl
    obtain ⟨s0, s1, s2, rfl⟩ : ∃ s0 s1 s2, cs = [s0, s1, s2] := by
      match cs, hl with
      | [s0, s1, s2], _ => exact ⟨s0, s1, s2, rfl⟩
    obtain ⟨g0, hg0, e0, o0⟩ := m0
    obtain ⟨g1, hg1, e1, o1⟩ := m1
    obtain ⟨g2, hg2, e2, o2⟩ := m2
    obtain ⟨y0, hy0⟩ := mapM_at _ _ hxs g0 hg0
    obtain ⟨y1, hy1⟩ := mapM_at _ _ hxs g1 hg1
    obtain ⟨y2, hy2⟩ := mapM_at _ _ hxs g2 hg2
    rw [e0, o0, c0] at hy0
    rw [e1, o1, c1] at hy1
    rw [e2, o2, c2] at hy2
    exact ⟨s0, s1, s2, n, y0, y1, y2, rfl, hy0, hy1, hy2⟩

end


/-- The pieces of a struct. -/
theorem struct_piece {H : Type} {enc : TypeId × Value → H} {P : Program} {W : World} {t : TypeId} {fs : Array Field} {fuel : Nat} {cs : List Value} {x : DataW H × List MemPlace} (hu : P.underlying t = some (.struct fs))
    (hx : DataW.trod enc P W 0 (fun _ => true) true fuel t cs = some x) :
    cs.length = P.cellsOf t ∧ ∃ n, ∀ g ∈ fs.toList, ∃ y, DataW.trod enc P W 0 (fun _ => true) true n g.type ((cs.drop g.offset).take (P.cellsOf g.type)) = some y := by
  cases fuel with
  | zero => simp [DataW.trod] at hx
  | succ n =>
    unfold DataW.trod at hx
    rw [hu] at hx
    simp only at hx
    split at hx
    case isFalse => cases hx
    rename_i hl
    obtain ⟨xs, hxs, _⟩ := Option.map_eq_some_iff.1 hx
    exact ⟨hl, n, fun g hg => mapM_at _ _ hxs g hg⟩

end Go.Proofs.Ytoihnilgmdcndaa

namespace Go.Proofs.Ytoihnilgmdcndaa
set_option linter.unusedVariables false
set_option linter.unusedSimpArgs false
open Go.RowKit Go.ChangeShapes

set_option maxRecDepth 100000 in
theorem sheet_open {H : Type} {enc : TypeId × Value → H} {W : World} {fuel : Nat} {cs : List Value} {x : DataW H × List MemPlace} (hx : DataW.trod enc Try.prog W 0 (fun _ => true) true fuel 69 cs = some x) :
    ∃ (p0 p1 p2 p3 h f0 f1 f2 f3 : Int) (o : Bool) (c0 c1 w0 w1 w2 w3 w4 : Int), cs = [.int .u8 p0, .int .u8 p1, .int .u8 p2, .int .u8 p3, .int .u8 h, .int .u8 f0, .int .u8 f1, .int .u8 f2, .int .u8 f3, .bool o, .int .u8 c0, .int .u8 c1, .int .u8 w0, .int .u8 w1, .int .u8 w2, .int .u8 w3, .int .u8 w4] ∧ By p0 ∧ By p1 ∧ By p2 ∧ By p3 ∧ By h ∧ By f0 ∧ By f1 ∧ By f2 ∧ By f3 ∧ By c0 ∧ By c1 ∧ By w0 ∧ By w1 ∧ By w2 ∧ By w3 ∧ By w4 := by
  obtain ⟨hl, n, hp⟩ := struct_piece Try.underlying69 hx
  rw [show Try.prog.cellsOf 69 = 17 from by kernel_rfl] at hl
  obtain ⟨d0, d1, d2, d3, d4, d5, d6, d7, d8, d9, d10, d11, d12, d13, d14, d15, d16, rfl⟩ : ∃ d0 d1 d2 d3 d4 d5 d6 d7 d8 d9 d10 d11 d12 d13 d14 d15 d16, cs = [d0, d1, d2, d3, d4, d5, d6, d7, d8, d9, d10, d11, d12, d13, d14, d15, d16] := by
    match cs, hl with
    | [d0, d1, d2, d3, d4, d5, d6, d7, d8, d9, d10, d11, d12, d13, d14, d15, d16], _ => exact ⟨d0, d1, d2, d3, d4, d5, d6, d7, d8, d9, d10, d11, d12, d13, d14, d15, d16, rfl⟩
  obtain ⟨y0, h0⟩ := hp _ List.mem_cons_self
  obtain ⟨y1, h1⟩ := hp _ (List.mem_cons_of_mem _ List.mem_cons_self)
  obtain ⟨y2, h2⟩ := hp _ (List.mem_cons_of_mem _ (List.mem_cons_of_mem _ List.mem_cons_self))
  obtain ⟨y3, h3⟩ := hp _ (List.mem_cons_of_mem _ (List.mem_cons_of_mem _ (List.mem_cons_of_mem _ List.mem_cons_self)))
  obtain ⟨y4, h4⟩ := hp _ (List.mem_cons_of_mem _ (List.mem_cons_of_mem _ (List.mem_cons_of_mem _ (List.mem_cons_of_mem _ List.mem_cons_self))))
  obtain ⟨y5, h5⟩ := hp _ (List.mem_cons_of_mem _ (List.mem_cons_of_mem _ (List.mem_cons_of_mem _ (List.mem_cons_of_mem _ (List.mem_cons_of_mem _ List.mem_cons_self)))))
  have g0 : DataW.trod enc Try.prog W 0 (fun _ => true) true n 65 [d0, d1, d2, d3] = some y0 := by
    have e : Try.prog.cellsOf 65 = 4 := by kernel_rfl
    simpa only [List.drop_succ_cons, List.drop_zero, e, List.take_succ_cons, List.take_zero] using h0
  have g1 : DataW.trod enc Try.prog W 0 (fun _ => true) true n 5 [d4] = some y1 := by
    have e : Try.prog.cellsOf 5 = 1 := by kernel_rfl
    simpa only [List.drop_succ_cons, List.drop_zero, e, List.take_succ_cons, List.take_zero] using h1
  have g2 : DataW.trod enc Try.prog W 0 (fun _ => true) true n 65 [d5, d6, d7, d8] = some y2 := by
    have e : Try.prog.cellsOf 65 = 4 := by kernel_rfl
    simpa only [List.drop_succ_cons, List.drop_zero, e, List.take_succ_cons, List.take_zero] using h2
  have g3 : DataW.trod enc Try.prog W 0 (fun _ => true) true n 4 [d9] = some y3 := by
    have e : Try.prog.cellsOf 4 = 1 := by kernel_rfl
    simpa only [List.drop_succ_cons, List.drop_zero, e, List.take_succ_cons, List.take_zero] using h3
  have g4 : DataW.trod enc Try.prog W 0 (fun _ => true) true n 66 [d10, d11] = some y4 := by
    have e : Try.prog.cellsOf 66 = 2 := by kernel_rfl
    simpa only [List.drop_succ_cons, List.drop_zero, e, List.take_succ_cons, List.take_zero] using h4
  have g5 : DataW.trod enc Try.prog W 0 (fun _ => true) true n 67 [d12, d13, d14, d15, d16] = some y5 := by
    have e : Try.prog.cellsOf 67 = 5 := by kernel_rfl
    simpa only [List.drop_succ_cons, List.drop_zero, e, List.take_succ_cons, List.take_zero] using h5
  obtain ⟨_, hat0⟩ := allK_open (k := .u8) 5 65 (by kernel_rfl) _ _ _ g0
  obtain ⟨l0, e0, b0⟩ := ints_of _ hat0
  obtain ⟨p0, p1, p2, p3, rfl⟩ : ∃ p0 p1 p2 p3, l0 = [p0, p1, p2, p3] := by
    have hl4 : l0.length = 4 := by
      have := congrArg List.length e0
      simpa using this.symm
    match l0, hl4 with
    | [p0, p1, p2, p3], _ => exact ⟨p0, p1, p2, p3, rfl⟩
  obtain ⟨h, e1, b1⟩ := int_open Try.underlying5 g1
  obtain ⟨_, hat2⟩ := allK_open (k := .u8) 5 65 (by kernel_rfl) _ _ _ g2
  obtain ⟨l2, e2, b2⟩ := ints_of _ hat2
  obtain ⟨f0, f1, f2, f3, rfl⟩ : ∃ f0 f1 f2 f3, l2 = [f0, f1, f2, f3] := by
    have hl4 : l2.length = 4 := by
      have := congrArg List.length e2
      simpa using this.symm
    match l2, hl4 with
    | [f0, f1, f2, f3], _ => exact ⟨f0, f1, f2, f3, rfl⟩
  obtain ⟨o, e3, _⟩ := DataW.trod_bool Try.underlying4 g3
  obtain ⟨_, hat4⟩ := allK_open (k := .u8) 5 66 (by kernel_rfl) _ _ _ g4
  obtain ⟨l4, e4, b4⟩ := ints_of _ hat4
  obtain ⟨c0, c1, rfl⟩ : ∃ c0 c1, l4 = [c0, c1] := by
    have hl4 : l4.length = 2 := by
      have := congrArg List.length e4
      simpa using this.symm
    match l4, hl4 with
    | [c0, c1], _ => exact ⟨c0, c1, rfl⟩
  obtain ⟨_, hat5⟩ := allK_open (k := .u8) 5 67 (by kernel_rfl) _ _ _ g5
  obtain ⟨l5, e5, b5⟩ := ints_of _ hat5
  obtain ⟨w0, w1, w2, w3, w4, rfl⟩ : ∃ w0 w1 w2 w3 w4, l5 = [w0, w1, w2, w3, w4] := by
    have hl4 : l5.length = 5 := by
      have := congrArg List.length e5
      simpa using this.symm
    match l5, hl4 with
    | [w0, w1, w2, w3, w4], _ => exact ⟨w0, w1, w2, w3, w4, rfl⟩
  simp only [List.map_cons, List.map_nil, List.cons.injEq, and_true] at e0 e1 e2 e3 e4 e5
  obtain ⟨rfl, rfl, rfl, rfl⟩ := e0
  subst e1
  obtain ⟨rfl, rfl, rfl, rfl⟩ := e2
  subst e3
  obtain ⟨rfl, rfl⟩ := e4
  obtain ⟨rfl, rfl, rfl, rfl, rfl⟩ := e5
  exact ⟨p0, p1, p2, p3, h, f0, f1, f2, f3, o, c0, c1, w0, w1, w2, w3, w4, rfl, bounds_u8 (b0 p0 (by simp)), bounds_u8 (b0 p1 (by simp)), bounds_u8 (b0 p2 (by simp)), bounds_u8 (b0 p3 (by simp)), bounds_u8 b1, bounds_u8 (b2 f0 (by simp)), bounds_u8 (b2 f1 (by simp)), bounds_u8 (b2 f2 (by simp)), bounds_u8 (b2 f3 (by simp)), bounds_u8 (b4 c0 (by simp)), bounds_u8 (b4 c1 (by simp)), bounds_u8 (b5 w0 (by simp)), bounds_u8 (b5 w1 (by simp)), bounds_u8 (b5 w2 (by simp)), bounds_u8 (b5 w3 (by simp)), bounds_u8 (b5 w4 (by simp))⟩

end Go.Proofs.Ytoihnilgmdcndaa

namespace Go.Proofs.Ytoihnilgmdcndaa
set_option linter.unusedVariables false
set_option linter.unusedSimpArgs false
open Go.RowKit

theorem topOf_two (o : Bool) (f0 f1 : Int) (h0 : By f0) (h1 : By f1) : ∃ t0 t1, topOf o f0 f1 = [t0, t1] ∧ (0 ≤ t0 ∧ t0 ≤ 255) ∧ (0 ≤ t1 ∧ t1 ≤ 255) ∧ (o = true → t0 = 0 ∧ t1 = 0) ∧ (o = true ∨ (t0 = f0 ∧ t1 = f1)) := by
  cases o with
  | false => exact ⟨f0, f1, rfl, h0, h1, (fun h => by cases h), .inr ⟨rfl, rfl⟩⟩
  | true => exact ⟨0, 0, rfl, by omega, by omega, fun _ => ⟨rfl, rfl⟩, .inl rfl⟩

theorem wide_of {w0 w1 w2 w3 w4 : Int} (h0 : By w0) (h1 : By w1) (h2 : By w2) (h3 : By w3) (h4 : By w4) : Wide (w0 % 4) (w1 % 4) (w2 % 4) (w3 % 6) (w4 % 6) := by
  refine ⟨⟨?_, ?_⟩, ⟨?_, ?_⟩, ⟨?_, ?_⟩, ⟨?_, ?_⟩, ⟨?_, ?_⟩⟩ <;> omega

end Go.Proofs.Ytoihnilgmdcndaa

namespace Go.Proofs.Ytoihnilgmdcndaa
set_option linter.unusedVariables false
set_option linter.unusedSimpArgs false
open Go.RowKit

/-- What the measure of check k is while no caliper is lost. -/
def flatN (p0 p1 p2 p3 t0 t1 s0 s1 hei : Int) (k : Nat) : Int :=
 match k with
 | 0 => 1000 * p0
 | 1 => 1000 * p1
 | 2 => 1000 * p2
 | 3 => 1000 * p3
 | 4 => 1000 * hei
 | 5 => 1000 * p1 - 2000 * t0
 | 6 => 1000 * p0 - 2000 * t1
 | 7 => 1000 * p1 - 2000 * s0
 | 8 => 1000 * p0 - 2000 * s1
 | _ => 9000

theorem flat4 {p0 p1 p2 p3 t0 t1 s0 s1 hei : Int} {o : Bool} (h : Blank4 p0 p1 p2 p3 t0 t1 s0 s1 hei o) {k : Nat} (hk : k < 10) :
  flatS 0 hei 9 [p0, p1, p2, p3] [t0, t1] [s0, s1] o k = ⟨flatN p0 p1 p2 p3 t0 t1 s0 s1 hei k, flatN p0 p1 p2 p3 t0 t1 s0 s1 hei k⟩ := by
 obtain ⟨h0, h1, h2, h3, h4, h5, h6, h7, h8, h9⟩ := h
 match k, hk with
 | 0, _ => simp [flatS, flatAt, flatN, nearL]; omega
 | 1, _ => simp [flatS, flatAt, flatN, nearL]; omega
 | 2, _ => simp [flatS, flatAt, flatN, nearL]; omega
 | 3, _ => simp [flatS, flatAt, flatN, nearL]; omega
 | 4, _ => simp [flatS, flatAt, flatN, nearL]; omega
 | 5, _ =>
  cases o with
  | true => obtain ⟨rfl, rfl⟩ := h9 rfl; simp [flatS, flatAt, flatN, nearL, gapS, flapS]; omega
  | false => simp [flatS, flatAt, flatN, nearL, gapS, flapS]; omega
 | 6, _ =>
  cases o with
  | true => obtain ⟨rfl, rfl⟩ := h9 rfl; simp [flatS, flatAt, flatN, nearL, gapS, flapS]; omega
  | false => simp [flatS, flatAt, flatN, nearL, gapS, flapS]; omega
 | 7, _ => simp [flatS, flatAt, flatN, nearL, gapS, flapS]; omega
 | 8, _ => simp [flatS, flatAt, flatN, nearL, gapS, flapS]; omega
 | 9, _ => simp [flatS, flatAt, flatN, nearL]; decide

theorem tdiv_le {x c l : Int} (hl : l = 1 ∨ l = 2) (hc : 0 ≤ c) (h : x ≤ l * c) : x.tdiv l ≤ c := by
 rcases hl with rfl | rfl
 ·simp only [Int.tdiv_one]; omega
 ·rcases Int.le_total 0 x with h0 | h0
  ·rw [Int.tdiv_eq_ediv_of_nonneg h0]; omega
  ·have e : x.tdiv 2 = -((-x).tdiv 2) := by rw [Int.neg_tdiv, Int.neg_neg]
   rw [e, Int.tdiv_eq_ediv_of_nonneg (by omega)]; omega

theorem tdiv_ge {x c l : Int} (hl : l = 1 ∨ l = 2) (hc : 0 ≤ c) (h : l * c ≤ x) : c ≤ x.tdiv l := by
 rcases hl with rfl | rfl
 ·simp only [Int.tdiv_one]; omega
 ·rw [Int.tdiv_eq_ediv_of_nonneg (by omega)]; omega

theorem hold4 {p0 p1 p2 p3 t0 t1 s0 s1 hei : Int} {o : Bool} (h : Blank4 p0 p1 p2 p3 t0 t1 s0 s1 hei o) {cl ch : Int} (c : Cal2 cl ch) {ll lh wl wh hl hh ol oh il ih : Int} {k : Nat} (hk : k < 10)
  (h0 : (o = true ∧ (k = 5 ∨ k = 6)) ∨ ((inS ll lh wl wh hl hh ol oh il ih k).lo ≤ flatN p0 p1 p2 p3 t0 t1 s0 s1 hei k - lostL k o * ch ∧ flatN p0 p1 p2 p3 t0 t1 s0 s1 hei k - lostL k o * cl ≤ (inS ll lh wl wh hl hh ol oh il ih k).hi)) :
  Holding (holdL 0 hei 9 [p0, p1, p2, p3] [t0, t1] [s0, s1] o ll lh wl wh hl hh ol oh il ih o) cl ch k := by
 obtain ⟨c0, c1, c2⟩ := c
 unfold Holding holdL
 rw [flat4 h hk, Bool.or_self]
 by_cases h5 : o = true ∧ (k = 5 ∨ k = 6)
 ·rw [if_pos h5, if_neg (by simp)]
  exact ⟨c0, c2⟩
 ·rw [if_neg h5]
  rcases h0 with h0 | ⟨a, b⟩
  ·exact absurd h0 h5
  have q0 := tdiv_le (lostL_12 k o) (x := flatN p0 p1 p2 p3 t0 t1 s0 s1 hei k - (inS ll lh wl wh hl hh ol oh il ih k).hi) (c := cl) (by omega) (by omega)
  have q1 := tdiv_ge (lostL_12 k o) (x := flatN p0 p1 p2 p3 t0 t1 s0 s1 hei k - (inS ll lh wl wh hl hh ol oh il ih k).lo) (c := ch) (by omega) (by omega)
  exact ⟨by simp only; omega, by simp only; omega⟩

theorem badL_one {H : Nat → Sp} {cl ch : Int} (hc : cl ≤ ch) {i : Nat} (hi : cl < (H i).lo) : ∀ n, (∀ k, k < n → k ≠ i → Holding H cl ch k) → badL cl ch H n = if i < n then [((i : Int), cl)] else []
 | 0, _ => by simp [badL]
 | n + 1, h => by
  have e := badL_one hc hi n (fun k hk => h k (by omega))
  unfold badL
  rw [e]
  by_cases hn : n = i
  ·subst hn
   have e1 : outB cl ch (H n).lo (H n).hi = true := by simp [outB, hi]
   have e2 : outN cl ch (H n).lo (H n).hi = cl := by simp [outN, hi]
   rw [e1, e2]
   simp
  ·rw [out_no hc (h n (by omega) hn)]
   simp only [Bool.false_eq_true, if_false, List.append_nil]
   by_cases h1 : i < n
   ·rw [if_pos h1, if_pos (by omega)]
   ·rw [if_neg h1, if_neg (by omega)]

theorem calTo_all {H : Nat → Sp} {cl ch : Int} (c0 : 1 ≤ cl) (c1 : ch ≤ 10000) : ∀ n, (∀ k, k < n → Holding H cl ch k) → (calTo H n).lo ≤ cl ∧ ch ≤ (calTo H n).hi
 | 0, _ => ⟨c0, c1⟩
 | n + 1, h => by
  obtain ⟨a, b⟩ := calTo_all c0 c1 n (fun k hk => h k (by omega))
  obtain ⟨d, e⟩ := h n (by omega)
  simp only [calTo]
  omega

/-- What is known of a blank and the wish around it: all checks but those of panels that are longer hold with all calipers. -/
theorem folds_at {p0 p1 p2 p3 t0 t1 s0 s1 hei : Int} {o : Bool} (h : Sheet4 p0 p1 p0 p1 t0 t1 s0 s1 hei o) (b2 : 1 ≤ p2 ∧ p2 ≤ 3000) (b3 : 1 ≤ p3 ∧ p3 ≤ 3000) (ht : o = true ∨ (t0 = s0 ∧ t1 = s1)) {cl ch : Int} (c : Cal4 cl ch) {w0 w1 w2 w3 w4 : Int} (hw : Wide w0 w1 w2 w3 w4) {k : Nat} (hk : k < 10) (h2 : k = 2 → p2 = p0) (h3 : k = 3 → p3 = p1) :
  Holding (holdW p0 p1 p2 p3 t0 t1 s0 s1 hei o (wishOf p0 p1 s0 s1 hei o cl ch w0 w1 w2 w3 w4)) cl ch k := by
 obtain ⟨⟨a0, _⟩, ⟨a1, _⟩, ⟨a2, _⟩, ⟨a3, _⟩, ⟨a4, _⟩⟩ := hw
 obtain ⟨c0, c1, c2⟩ := c
 obtain ⟨g0, g1, g2, g3, g4, g5, g6, g7, g8, g9⟩ := h
 refine hold4 (p0 := p0) (p1 := p1) (p2 := p2) (p3 := p3) (t0 := t0) (t1 := t1) (s0 := s0) (s1 := s1) (hei := hei) (o := o) ⟨by omega, by omega, b2, b3, by omega, by omega, by omega, by omega, by omega, g9⟩ ⟨by omega, by omega, by omega⟩ hk ?_
 have e4 : ∀ j : Nat, j ≠ 4 → lostL (j : Int) o = 1 := fun j hj => by unfold lostL; rw [if_neg (by omega)]
 have e5 : micH hei o ch = 1000 * hei - lostL 4 o * ch := micH_eq hei o ch
 have e6 : micH hei o cl = 1000 * hei - lostL 4 o * cl := micH_eq hei o cl
 have e7 : 0 ≤ micH hei o ch ∧ micH hei o cl ≤ 3000000 := by cases o <;> simp [micH] <;> omega
 match k, hk with
 | 0, _ =>
  refine .inr ?_
  rw [e4 0 (by decide)]
  have q0 := arL_le (n := 1000 * p0 - ch) (most := 3000) a0 (least := 0) (by omega)
  have q1 := arH_ge (n := 1000 * p0 - cl) (least := 0) a0 (most := 3000) (by omega)
  simp only [inS, wishOf, flatN, true_or, if_true]
  omega
 | 1, _ =>
  refine .inr ?_
  rw [e4 1 (by decide)]
  have q0 := arL_le (n := 1000 * p1 - ch) (most := 3000) a1 (least := 0) (by omega)
  have q1 := arH_ge (n := 1000 * p1 - cl) (least := 0) a1 (most := 3000) (by omega)
  simp [inS, wishOf, flatN]
  omega
 | 2, _ =>
  refine .inr ?_
  rw [e4 2 (by decide)]
  obtain rfl : p0 = p2 := (h2 rfl).symm
  have q0 := arL_le (n := 1000 * p0 - ch) (most := 3000) a0 (least := 0) (by omega)
  have q1 := arH_ge (n := 1000 * p0 - cl) (least := 0) a0 (most := 3000) (by omega)
  simp [inS, wishOf, flatN]
  omega
 | 3, _ =>
  refine .inr ?_
  rw [e4 3 (by decide)]
  obtain rfl : p1 = p3 := (h3 rfl).symm
  have q0 := arL_le (n := 1000 * p1 - ch) (most := 3000) a1 (least := 0) (by omega)
  have q1 := arH_ge (n := 1000 * p1 - cl) (least := 0) a1 (most := 3000) (by omega)
  simp [inS, wishOf, flatN]
  omega
 | 4, _ =>
  refine .inr ?_
  have q0 := arL_le (n := micH hei o ch) (most := 3000) a2 (least := 0) (by omega)
  have q1 := arH_ge (n := micH hei o cl) (least := 0) a2 (most := 3000) (by omega)
  simp [inS, wishOf, flatN]
  omega
 | 5, _ =>
  rcases ht with ht | ⟨rfl, rfl⟩
  ·exact .inl ⟨ht, .inl rfl⟩
  refine .inr ?_
  rw [e4 5 (by decide)]
  have q0 := arL_le (n := 1000 * p1 - ch - 2000 * t0) (most := 3000) a3 (least := -3000) (by omega)
  have q1 := arH_ge (n := 1000 * p1 - cl - 2000 * t0) (least := -3000) a3 (most := 3000) (by omega)
  simp [inS, wishOf, flatN]
  omega
 | 6, _ =>
  rcases ht with ht | ⟨rfl, rfl⟩
  ·exact .inl ⟨ht, .inr rfl⟩
  refine .inr ?_
  rw [e4 6 (by decide)]
  have q0 := arL_le (n := 1000 * p0 - ch - 2000 * t1) (most := 3000) a4 (least := -3000) (by omega)
  have q1 := arH_ge (n := 1000 * p0 - cl - 2000 * t1) (least := -3000) a4 (most := 3000) (by omega)
  simp [inS, wishOf, flatN]
  omega
 | 7, _ =>
  refine .inr ?_
  rw [e4 7 (by decide)]
  have q0 := arL_le (n := 1000 * p1 - ch - 2000 * s0) (most := 3000) a3 (least := -3000) (by omega)
  have q1 := arH_ge (n := 1000 * p1 - cl - 2000 * s0) (least := -3000) a3 (most := 3000) (by omega)
  simp [inS, wishOf, flatN]
  omega
 | 8, _ =>
  refine .inr ?_
  rw [e4 8 (by decide)]
  have q0 := arL_le (n := 1000 * p0 - ch - 2000 * s1) (most := 3000) a4 (least := -3000) (by omega)
  have q1 := arH_ge (n := 1000 * p0 - cl - 2000 * s1) (least := -3000) a4 (most := 3000) (by omega)
  simp [inS, wishOf, flatN]
  omega
 | 9, _ =>
  refine .inr ?_
  rw [e4 9 (by decide)]
  simp [inS, flatN]
  omega

/-- It closes. -/
theorem folds_close {p0 p1 t0 t1 s0 s1 hei : Int} {o : Bool} (h : Sheet4 p0 p1 p0 p1 t0 t1 s0 s1 hei o) (ht : o = true ∨ (t0 = s0 ∧ t1 = s1)) {cl ch : Int} (c : Cal4 cl ch) {w0 w1 w2 w3 w4 : Int} (hw : Wide w0 w1 w2 w3 w4) :
  badL cl ch (holdW p0 p1 p0 p1 t0 t1 s0 s1 hei o (wishOf p0 p1 s0 s1 hei o cl ch w0 w1 w2 w3 w4)) 10 = [] ∧ (calTo (holdW p0 p1 p0 p1 t0 t1 s0 s1 hei o (wishOf p0 p1 s0 s1 hei o cl ch w0 w1 w2 w3 w4)) 10).lo ≤ cl ∧ ch ≤ (calTo (holdW p0 p1 p0 p1 t0 t1 s0 s1 hei o (wishOf p0 p1 s0 s1 hei o cl ch w0 w1 w2 w3 w4)) 10).hi :=
 have H : ∀ k, k < 10 → Holding (holdW p0 p1 p0 p1 t0 t1 s0 s1 hei o (wishOf p0 p1 s0 s1 hei o cl ch w0 w1 w2 w3 w4)) cl ch k := fun k hk => folds_at h (by have := h.1; omega) (by have := h.2.1; omega) ht c hw hk (fun _ => rfl) (fun _ => rfl)
 ⟨badL_none c.2.1 10 H, calTo_all (by have := c.1; omega) (by have := c.2.2; omega) 10 H⟩

theorem hold_23 {p0 p1 p2 p3 t0 t1 s0 s1 hei : Int} {o : Bool} {W : Wi} (h : Blank4 p0 p1 p2 p3 t0 t1 s0 s1 hei o) :
  holdW p0 p1 p2 p3 t0 t1 s0 s1 hei o W 2 = ⟨max 1 (1000 * p2 - 1000 * W.lh), min 10000 (1000 * p2 - 1000 * W.ll)⟩ ∧ holdW p0 p1 p2 p3 t0 t1 s0 s1 hei o W 3 = ⟨max 1 (1000 * p3 - 1000 * W.wh), min 10000 (1000 * p3 - 1000 * W.wl)⟩ := by
 unfold holdW holdL
 rw [flat4 h (by decide), flat4 h (by decide), if_neg (by simp), if_neg (by simp)]
 simp [flatN, inS, lostL]

/-- A longer panel 2 or 3 is named if it is too long. -/
theorem folds_long2 {p0 p1 t0 t1 s0 s1 hei : Int} {o : Bool} (h : Sheet4 p0 p1 p0 p1 t0 t1 s0 s1 hei o) (ht : o = true ∨ (t0 = s0 ∧ t1 = s1)) {cl ch : Int} (c : Cal4 cl ch) {w0 w1 w2 w3 w4 : Int} (hw : Wide w0 w1 w2 w3 w4) {m : Int} (m0 : 0 ≤ m) (m1 : m ≤ 8) :
  badL cl ch (holdW p0 p1 (p0 + m) p1 t0 t1 s0 s1 hei o (wishOf p0 p1 s0 s1 hei o cl ch w0 w1 w2 w3 w4)) 10 = (if 1000 * (p0 + m) - cl ≤ 1000 * (wishOf p0 p1 s0 s1 hei o cl ch w0 w1 w2 w3 w4).lh then [] else [(2, cl)]) := by
 have b2 : 1 ≤ p0 + m ∧ p0 + m ≤ 3000 := by have := h.1; omega
 have b3 : 1 ≤ p1 ∧ p1 ≤ 3000 := by have := h.2.1; omega
 have B : Blank4 p0 p1 (p0 + m) p1 t0 t1 s0 s1 hei o := by
  obtain ⟨x0, x1, _, x3, x4⟩ := h.ok
  exact ⟨x0, x1, b2, x3, x4⟩
 have H : ∀ k, k < 10 → k ≠ 2 → Holding (holdW p0 p1 (p0 + m) p1 t0 t1 s0 s1 hei o (wishOf p0 p1 s0 s1 hei o cl ch w0 w1 w2 w3 w4)) cl ch k := fun k hk hn => folds_at h b2 b3 ht c hw hk (fun e => absurd e hn) (fun _ => rfl)
 obtain ⟨e, _⟩ := hold_23 (W := wishOf p0 p1 s0 s1 hei o cl ch w0 w1 w2 w3 w4) B
 obtain ⟨c0, c1, c2⟩ := c
 have a0 := hw.1.1
 have g0 := h.1
 have q0 := arL_le (n := 1000 * p0 - ch) (most := 3000) a0 (least := 0) (by omega)
 have ell : (wishOf p0 p1 s0 s1 hei o cl ch w0 w1 w2 w3 w4).ll = arL (1000 * p0 - ch) w0 0 3000 := rfl
 rw [← ell] at q0
 split
 case isTrue hle =>
  refine badL_none c1 10 (fun k hk => ?_)
  by_cases h2 : k = 2
  ·subst h2
   unfold Holding
   rw [e]
   exact ⟨by simp only; omega, by simp only; omega⟩
  ·exact H k hk h2
 case isFalse hgt =>
  have := badL_one c1 (H := holdW p0 p1 (p0 + m) p1 t0 t1 s0 s1 hei o (wishOf p0 p1 s0 s1 hei o cl ch w0 w1 w2 w3 w4)) (i := 2) (by rw [e]; simp only; omega) 10 H
  simpa using this

theorem folds_long3 {p0 p1 t0 t1 s0 s1 hei : Int} {o : Bool} (h : Sheet4 p0 p1 p0 p1 t0 t1 s0 s1 hei o) (ht : o = true ∨ (t0 = s0 ∧ t1 = s1)) {cl ch : Int} (c : Cal4 cl ch) {w0 w1 w2 w3 w4 : Int} (hw : Wide w0 w1 w2 w3 w4) {m : Int} (m0 : 0 ≤ m) (m1 : m ≤ 8) :
  badL cl ch (holdW p0 p1 p0 (p1 + m) t0 t1 s0 s1 hei o (wishOf p0 p1 s0 s1 hei o cl ch w0 w1 w2 w3 w4)) 10 = (if 1000 * (p1 + m) - cl ≤ 1000 * (wishOf p0 p1 s0 s1 hei o cl ch w0 w1 w2 w3 w4).wh then [] else [(3, cl)]) := by
 have b2 : 1 ≤ p0 ∧ p0 ≤ 3000 := by have := h.1; omega
 have b3 : 1 ≤ p1 + m ∧ p1 + m ≤ 3000 := by have := h.2.1; omega
 have B : Blank4 p0 p1 p0 (p1 + m) t0 t1 s0 s1 hei o := by
  obtain ⟨x0, x1, x2, _, x4⟩ := h.ok
  exact ⟨x0, x1, x2, b3, x4⟩
 have H : ∀ k, k < 10 → k ≠ 3 → Holding (holdW p0 p1 p0 (p1 + m) t0 t1 s0 s1 hei o (wishOf p0 p1 s0 s1 hei o cl ch w0 w1 w2 w3 w4)) cl ch k := fun k hk hn => folds_at h b2 b3 ht c hw hk (fun _ => rfl) (fun e => absurd e hn)
 obtain ⟨_, e⟩ := hold_23 (W := wishOf p0 p1 s0 s1 hei o cl ch w0 w1 w2 w3 w4) B
 obtain ⟨c0, c1, c2⟩ := c
 have a0 := hw.2.1.1
 have g0 := h.2.1
 have q0 := arL_le (n := 1000 * p1 - ch) (most := 3000) a0 (least := 0) (by omega)
 have ell : (wishOf p0 p1 s0 s1 hei o cl ch w0 w1 w2 w3 w4).wl = arL (1000 * p1 - ch) w1 0 3000 := rfl
 rw [← ell] at q0
 split
 case isTrue hle =>
  refine badL_none c1 10 (fun k hk => ?_)
  by_cases h2 : k = 3
  ·subst h2
   unfold Holding
   rw [e]
   exact ⟨by simp only; omega, by simp only; omega⟩
  ·exact H k hk h2
 case isFalse hgt =>
  have := badL_one c1 (H := holdW p0 p1 p0 (p1 + m) t0 t1 s0 s1 hei o (wishOf p0 p1 s0 s1 hei o cl ch w0 w1 w2 w3 w4)) (i := 3) (by rw [e]; simp only; omega) 10 H
  simpa using this

end Go.Proofs.Ytoihnilgmdcndaa

namespace Go.Proofs.Ytoihnilgmdcndaa
set_option linter.unusedVariables false
set_option linter.unusedSimpArgs false
open Go.RowKit

theorem num_in {p0 p1 p2 p3 t0 t1 s0 s1 hei slo : Int} {o : Bool} (h : NumOk p0 p1 p2 p3 t0 t1 s0 s1 hei slo o) : inB 0 100000 [p0, p1, p2, p3, t0, t1, s0, s1, hei, slo] = true := by
  obtain ⟨h0, h1, h2, h3, h4, h5, h6, h7, h8, h9, _⟩ := h
  simp only [inB, in1, List.all_cons, List.all_nil, Bool.and_true, Bool.and_eq_true, decide_eq_true_eq]
  omega

/-- The twin closes. -/
theorem twin_fea {p0 p1 t0 t1 s0 s1 hei : Int} {o : Bool} (h : Sheet4 p0 p1 p0 p1 t0 t1 s0 s1 hei o) (ht : o = true ∨ (t0 = s0 ∧ t1 = s1)) {cl ch : Int} (c : Cal4 cl ch) {w0 w1 w2 w3 w4 : Int} (hw : Wide w0 w1 w2 w3 w4) :
    NumOk p0 p1 p0 p1 t0 t1 s0 s1 hei 9 o ∧ Fea (wholeR o) (wishOf p0 p1 s0 s1 hei o cl ch w0 w1 w2 w3 w4) cl ch (drOf p0 p1 p0 p1 t0 t1 s0 s1 hei 9) := by
  have N : NumOk p0 p1 p0 p1 t0 t1 s0 s1 hei 9 o := by
    obtain ⟨g0, g1, g2, g3, g4, g5, g6, g7, g8, g9⟩ := h
    exact ⟨by omega, by omega, by omega, by omega, by omega, by omega, by omega, by omega, by omega, by omega, g9⟩
  exact ⟨N, fea_of c.2.1 N (fun k hk => folds_at h (by have := h.1; omega) (by have := h.2.1; omega) ht c hw hk (fun _ => rfl) (fun _ => rfl))⟩

/-- Close of a blank that does not close: an error, or some check is named; which of both is said before. -/
theorem close_not2 (p0 p1 p2 p3 t0 t1 s0 s1 hei slo : Int) (o : Bool) (W : Wi) (H : W.ok) (cl ch : Int) (c : Cal2 cl ch) (F : ¬ Fea (wholeR o) W cl ch (drOf p0 p1 p2 p3 t0 t1 s0 s1 hei slo)) :
    ∃ (nb : Nat) (er : Int), ((er = 2 ∧ nb = 0) ∨ (er = 0 ∧ 0 < nb)) ∧ ∀ pa ta ba pc tc bc v, IRow v pa [p0, p1, p2, p3] → IRow v ta [t0, t1] → IRow v ba [s0, s1] →
      Calls Try.prog 42 #[.agg #[.int .i64 30, .slice pa 4 pc, .int .i64 hei, .slice ta 2 tc, .slice ba 2 bc, .int .i64 slo, .bool o], .agg #[.int .i64 W.ll, .int .i64 W.lh, .int .i64 W.wl, .int .i64 W.wh, .int .i64 W.hl, .int .i64 W.hh, .int .i64 W.ol, .int .i64 W.oh, .int .i64 W.il, .int .i64 W.ih, .bool W.wo], .agg #[.int .i64 cl, .int .i64 ch]] v fun e w' => (∃ a c, e = .returned (.tuple #[.slice a nb c, .int .i64 er])) ∧ Gr v w' := by
  by_cases hg : goodN 30 hei slo [p0, p1, p2, p3] [t0, t1] [s0, s1] o = true
  · have G := good_of (checkE_ok (tab := 30) (hei := hei) (slo := slo) (pan := [p0, p1, p2, p3]) (top := [t0, t1]) (bot := [s0, s1]) (opn := o) ⟨rfl, rfl, rfl⟩ hg)
    obtain ⟨L, hL⟩ : ∃ L, badL cl ch (holdL 0 hei slo [p0, p1, p2, p3] [t0, t1] [s0, s1] o W.ll W.lh W.wl W.wh W.hl W.hh W.ol W.oh W.il W.ih W.wo) 10 = L := ⟨_, rfl⟩
    have h0 : 0 < L.length := by
      rcases Nat.eq_zero_or_pos L.length with h | h
      · exfalso
        refine F (fea_of c.2.1 (NumOk.of_good G) (fun k hk => ?_))
        exact (badL_nil c.2.1 10).1 (hL.trans (List.length_eq_zero_iff.1 h)) k hk
      · exact h
    refine ⟨L.length, 0, .inr ⟨rfl, h0⟩, fun pa ta ba pc tc bc v h1 h2 h3 => (close_ok 30 hei slo [p0, p1, p2, p3] [t0, t1] [s0, s1] pa ta ba pc tc bc o W.ll W.lh W.wl W.wh W.hl W.hh W.ol W.oh W.il W.ih W.wo cl ch G H c.ok v h1 h2 h3).mono ?_⟩
    rintro e w' ⟨a, cap, he, g, _⟩
    rw [hL] at he
    exact ⟨⟨a, cap, he⟩, g⟩
  · have hg' : goodN 30 hei slo [p0, p1, p2, p3] [t0, t1] [s0, s1] o = false := by simpa using hg
    have he := checkE_arg (tab := 30) (hei := hei) (slo := slo) (pan := [p0, p1, p2, p3]) (top := [t0, t1]) (bot := [s0, s1]) (opn := o) ⟨rfl, rfl, rfl⟩ hg'
    exact ⟨0, 2, .inl ⟨rfl, rfl⟩, fun pa ta ba pc tc bc v h1 h2 h3 => (close_err 30 hei slo [p0, p1, p2, p3] [t0, t1] [s0, s1] pa ta ba pc tc bc o W cl ch 2 2 he (by rfl) (by decide) v h1 h2 h3).mono fun e w' h => ⟨⟨_, _, h.1⟩, h.2⟩⟩

set_option maxRecDepth 100000 in
theorem least_body (p0 p1 p2 p3 h f0 f1 f2 f3 : Int) (o : Bool) (c0 c1 w0 w1 w2 w3 w4 : Int) (hp0 : By p0) (hp1 : By p1) (hp2 : By p2) (hp3 : By p3) (hh : By h) (hf0 : By f0) (hf1 : By f1) (hf2 : By f2) (hf3 : By f3) (hc0 : By c0) (hc1 : By c1) (hw0 : By w0) (hw1 : By w1) (hw2 : By w2) (hw3 : By w3) (hw4 : By w4) (wh : Int) (hwh : By wh) (w : World) :
    Calls Try.prog 10 #[.agg #[.int .u8 p0, .int .u8 p1, .int .u8 p2, .int .u8 p3, .int .u8 h, .int .u8 f0, .int .u8 f1, .int .u8 f2, .int .u8 f3, .bool o, .int .u8 c0, .int .u8 c1, .int .u8 w0, .int .u8 w1, .int .u8 w2, .int .u8 w3, .int .u8 w4], .int .u8 wh] w fun e w' => e = .returned (.bool true) ∧ Gr w w' := by
  obtain ⟨g0, g1, hu, _⟩ := topOf_two o f0 f1 hf0 hf1
  obtain ⟨t0, t1, ht, ta, tb, tc, td⟩ := topOf_two o f2 f3 hf2 hf3
  have S : Sheet4 (60 + p0) (60 + p1) (60 + p0) (60 + p1) t0 t1 f2 f3 (40 + h) o := ⟨⟨by have := hp0.1; omega, by have := hp0.2; omega⟩, ⟨by have := hp1.1; omega, by have := hp1.2; omega⟩, ⟨by have := hp0.1; omega, by have := hp0.2; omega⟩, ⟨by have := hp1.1; omega, by have := hp1.2; omega⟩, ta, tb, hf2, hf3, ⟨by have := hh.1; omega, by have := hh.2; omega⟩, tc⟩
  have K : Cal4 (1500 + 20 * c0) (1500 + 20 * c0 + 2 * c1) := ⟨by have := hc0.1; omega, by have := hc1.1; omega, by have := hc0.2; have := hc1.2; omega⟩
  have Q := wide_of hw0 hw1 hw2 hw3 hw4
  obtain ⟨cl, hcl⟩ : ∃ z, 1500 + 20 * c0 = z := ⟨_, rfl⟩
  obtain ⟨ch, hch⟩ : ∃ z, 1500 + 20 * c0 + 2 * c1 = z := ⟨_, rfl⟩
  obtain ⟨mid, hm⟩ : ∃ z, (cl + ch) / 2 = z := ⟨_, rfl⟩
  have hM : cl ≤ mid ∧ mid ≤ ch := by have := hc1.1; omega
  have SC := fun v => sheetCal_any p0 p1 p2 p3 h f0 f1 f2 f3 o c0 c1 w0 w1 w2 w3 w4 hc0 hc1 v
  have WI := fun pa ta ba pc tc bc v h1 h2 h3 => wished_any p0 p1 p2 p3 h f0 f1 f2 f3 o c0 c1 w0 w1 w2 w3 w4 hw0 hw1 hw2 hw3 hw4 (60 + p0) (60 + p1) (60 + p0) (60 + p1) t0 t1 f2 f3 (40 + h) o (1500 + 20 * c0) (1500 + 20 * c0 + 2 * c1) (Lib.hid S) (Lib.hid K) pa ta ba pc tc bc v h1 h2 h3
  rw [hch, hcl] at K SC WI
  have hW := wishOf_ok (p0 := 60 + p0) (p1 := 60 + p1) (s0 := f2) (s1 := f3) (hei := 40 + h) (o := o) (cl := cl) (ch := ch) Q K.2.1
  have c2 : Cal2 cl ch := ⟨by have := K.1; omega, K.2.1, by have := K.2.2; omega⟩
  have c3 : Cal2 cl mid := ⟨by have := K.1; omega, hM.1, by have := K.2.2; omega⟩
  obtain ⟨N, F⟩ := twin_fea S td K Q
  obtain ⟨m0, m1, m2, m3, u0, u1, v0, v1, mh, ms, e, e10, Fm, M⟩ := least_found K.2.1 F
  obtain ⟨n0, n1, n2, n3, k0, k1, j0, j1, nh, ns, e', e10', Fn, M'⟩ := least_found hM.1 (F.fewer (Int.le_refl _) hM.1 hM.2)
  have hwo : (wishOf (60 + p0) (60 + p1) f2 f3 (40 + h) o cl ch (w0 % 4) (w1 % 4) (w2 % 4) (w3 % 6) (w4 % 6)).wo = o := rfl
  exact least_core _ _ _ _ _ _ _ _ _ _ _ _ _ _ _ _ _ wh hwh (60 + p0) (60 + p1) (60 + p2) (60 + p3) g0 g1 t0 t1 f2 f3 (40 + h) o cl ch mid (wishOf (60 + p0) (60 + p1) f2 f3 (40 + h) o cl ch (w0 % 4) (w1 % 4) (w2 % 4) (w3 % 6) (w4 % 6)) m0 m1 m2 m3 u0 u1 v0 v1 mh ms n0 n1 n2 n3 k0 k1 j0 j1 nh ns
    (Lib.hid S) (Lib.hid K) (Lib.hid ⟨hm, hM.1, hM.2⟩)
    (Lib.hid (fun v => (sheetBlank_any p0 p1 p2 p3 h f0 f1 f2 f3 o c0 c1 w0 w1 w2 w3 w4 hp0 hp1 hp2 hp3 hh hf0 hf1 hf2 hf3 v).mono (fun e w2 H => by rw [hu] at H; exact H.new)))
    (Lib.hid (fun pa ta ba pc tc bc v h1 h2 h3 => twin_at (60 + p0) (60 + p1) (60 + p2) (60 + p3) g0 g1 f2 f3 t0 t1 (40 + h) o ht pa ta ba pc tc bc v h1 h2 h3))
    (Lib.hid SC) (Lib.hid WI)
    (Lib.hid (fun v => blank_found _ o hwo hW cl ch c2 m0 m1 m2 m3 u0 u1 v0 v1 mh ms e e10 v))
    (Lib.hid (fun v => blank_found _ o hwo hW cl mid c3 n0 n1 n2 n3 k0 k1 j0 j1 nh ns e' e10' v))
    (Lib.hid (fun pa ta ba pc tc bc v h1 h2 h3 => close_fea m0 m1 m2 m3 u0 u1 v0 v1 mh ms o _ hwo hW cl ch c2 Fm pa ta ba pc tc bc v h1 h2 h3))
    (Lib.hid (fun l0 l1 l2 l3 i0 i1 i2 i3 lh ls hl => close_not2 l0 l1 l2 l3 i0 i1 i2 i3 lh ls o _ hW cl ch c2 (less_not M hl)))
    (Lib.hid ⟨num_in (num_of Fm), num_in N⟩) (Lib.hid ⟨num_in (num_of Fn), num_in (num_of Fm)⟩)
    (Lib.hid (cmp_le (M _ _ _ _ _ _ _ _ _ _ F))) (Lib.hid (cmp_le (M' _ _ _ _ _ _ _ _ _ _ (Fm.fewer (Int.le_refl _) hM.1 hM.2)))) (Lib.hid hwo) w

end Go.Proofs.Ytoihnilgmdcndaa
