/- ScoreFolds' body. (Made by gen_s64.py.) A law's end: it returned true and the world only grew. And: what an argument is that is made of integers of one kind. What an argument is that is a slice of small arrays of integers; a struct of three slices; the pieces of a struct. A sheet that comes in (chapter 2). (Made by gen_s65.py.) ScoreFolds for sheets of bytes. (Made by gen_s65.py.) -/
import Derived.Test.YtpfnlldnddjbmaaQS65a
import Derived.Test.YtpfnlldnddjbmaaQS32e
import Derived.ProofKit
import Derived.OpenShut
import Derived.Test.YtpfnlldnddjbmaaQS32a
import Derived.ChangeSame
import Derived.Carry
namespace Go.Proofs.Ytpfnlldnddjbmaa
set_option linter.unusedVariables false
set_option linter.unusedSimpArgs false
open Go.RowKit

set_option maxRecDepth 100000 in
theorem three_0 (a b c : Value) (w : World) : (Instr.index 80 (.agg #[a, b, c]) (.int .i64 0)).run Try.prog w = .ok a w := by kernel_rfl

theorem three_1 (a b c : Value) (w : World) : (Instr.index 80 (.agg #[a, b, c]) (.int .i64 1)).run Try.prog w = .ok b w := by kernel_rfl

theorem three_2 (a b c : Value) (w : World) : (Instr.index 80 (.agg #[a, b, c]) (.int .i64 2)).run Try.prog w = .ok c w := by kernel_rfl
attribute [local go_sem] three_0 three_1 three_2

theorem nine_at {w : World} {b : Nat} {f : Nat → Int} (h : Box w b [.int .i64 (f 0), .int .i64 (f 1), .int .i64 (f 2), .int .i64 (f 3), .int .i64 (f 4), .int .i64 (f 5), .int .i64 (f 6), .int .i64 (f 7), .int .i64 (f 8)]) {i : Nat} (hi : i < 9) : w.cell? ⟨b, i, none⟩ = some (.int .i64 (f i)) := by
 match i, hi with
 | 0, _ => exact h.2 0 _ rfl
 | 1, _ => exact h.2 1 _ rfl
 | 2, _ => exact h.2 2 _ rfl
 | 3, _ => exact h.2 3 _ rfl
 | 4, _ => exact h.2 4 _ rfl
 | 5, _ => exact h.2 5 _ rfl
 | 6, _ => exact h.2 6 _ rfl
 | 7, _ => exact h.2 7 _ rfl
 | 8, _ => exact h.2 8 _ rfl

set_option maxRecDepth 100000 in
set_option maxHeartbeats 16000000 in
theorem folds_core (x0 x1 x2 x3 x4 x5 x6 x7 x8 x9 x10 x11 x12 x13 x14 x15 x16 : Value) (wh by0 : Int) (hwh : By wh) (hby : By by0) (a0 a1 a2 a3 u0 u1 t0 t1 s0 s1 hei : Int) (o : Bool) (cl ch : Int) (W : Wi)
  (HS : Hid (Sheet4 a0 a1 a0 a1 t0 t1 s0 s1 hei o)) (HK : Hid (Cal4 cl ch)) (HW : Hid W.ok) (HWL : Hid (0 ≤ W.lh ∧ W.lh ≤ 3000 ∧ 0 ≤ W.wh ∧ W.wh ≤ 3000))
  (SB : Hid (∀ v, Calls Try.prog 39 #[.agg #[x0, x1, x2, x3, x4, x5, x6, x7, x8, x9, x10, x11, x12, x13, x14, x15, x16]] v (BlankNew a0 a1 a2 a3 u0 u1 s0 s1 hei o v)))
  (TW : Hid (∀ pa ta ba pc tc bc v, IRow v pa [a0, a1, a2, a3] → IRow v ta [u0, u1] → IRow v ba [s0, s1] → Calls Try.prog 38 #[.agg #[.int .i64 30, .slice pa 4 pc, .int .i64 hei, .slice ta 2 tc, .slice ba 2 bc, .int .i64 9, .bool o]] v (TwinAt a0 a1 t0 t1 hei o ba bc v)))
  (SC : Hid (∀ v, Calls Try.prog 40 #[.agg #[x0, x1, x2, x3, x4, x5, x6, x7, x8, x9, x10, x11, x12, x13, x14, x15, x16]] v fun e w' => e = .returned (.agg #[.int .i64 cl, .int .i64 ch]) ∧ Gr v w'))
  (WI : Hid (∀ pa ta ba pc tc bc v, IRow v pa [a0, a1, a0, a1] → IRow v ta [t0, t1] → IRow v ba [s0, s1] → Calls Try.prog 41 #[.agg #[x0, x1, x2, x3, x4, x5, x6, x7, x8, x9, x10, x11, x12, x13, x14, x15, x16], .agg #[.int .i64 30, .slice pa 4 pc, .int .i64 hei, .slice ta 2 tc, .slice ba 2 bc, .int .i64 9, .bool o], .agg #[.int .i64 cl, .int .i64 ch]] v fun e w' => e = .returned (.agg #[.int .i64 W.ll, .int .i64 W.lh, .int .i64 W.wl, .int .i64 W.wh, .int .i64 W.hl, .int .i64 W.hh, .int .i64 W.ol, .int .i64 W.oh, .int .i64 W.il, .int .i64 W.ih, .bool W.wo]) ∧ Gr v w'))
  (H0 : Hid (badL cl ch (holdW a0 a1 a0 a1 t0 t1 s0 s1 hei o W) 10 = [] ∧ (calTo (holdW a0 a1 a0 a1 t0 t1 s0 s1 hei o W) 10).lo ≤ cl ∧ ch ≤ (calTo (holdW a0 a1 a0 a1 t0 t1 s0 s1 hei o W) 10).hi))
  (H2 : Hid (∀ m, 0 ≤ m → m ≤ 8 → badL cl ch (holdW a0 a1 (a0 + m) a1 t0 t1 s0 s1 hei o W) 10 = (if 1000 * (a0 + m) - cl ≤ 1000 * W.lh then [] else [(2, cl)])))
  (H3 : Hid (∀ m, 0 ≤ m → m ≤ 8 → badL cl ch (holdW a0 a1 a0 (a1 + m) t0 t1 s0 s1 hei o W) 10 = (if 1000 * (a1 + m) - cl ≤ 1000 * W.wh then [] else [(3, cl)]))) (w : World) :
  Calls Try.prog 8 #[.agg #[x0, x1, x2, x3, x4, x5, x6, x7, x8, x9, x10, x11, x12, x13, x14, x15, x16], .int .u8 wh, .int .u8 by0] w fun e w' => e = .returned (.bool true) ∧ Gr w w' := by
 have gg := Gr.al w (.cells #[x0, x1, x2, x3, x4, x5, x6, x7, x8, x9, x10, x11, x12, x13, x14, x15, x16] 69)
 have h3 := Box.new w [x0, x1, x2, x3, x4, x5, x6, x7, x8, x9, x10, x11, x12, x13, x14, x15, x16] 69 w.heap.size rfl
 go_enter Try.func8, Try.ntmps8
 go_upto_region 1 with fail
 refine wp_abs (fun U => Gr w U ∧ Box U w.heap.size [x0, x1, x2, x3, x4, x5, x6, x7, x8, x9, x10, x11, x12, x13, x14, x15, x16]) ⟨gg, h3⟩ ?_
 clear gg h3
 rintro U ⟨gU, h3⟩
 refine wp_region_own 7 [(1, 0), (2, 1), (4, 3)] [1, 2] [5, 6] (by decide) (fun x => ⟨#[.agg #[x0, x1, x2, x3, x4, x5, x6, x7, x8, x9, x10, x11, x12, x13, x14, x15, x16], .int .u8 wh, .int .u8 by0, .pointer (some ⟨w.heap.size, 0, none⟩), undef, undef, .bool false, x 5, x 6, undef, undef, undef, undef, undef, undef, undef, undef, undef, undef, undef, undef, undef, undef, undef, x 0, x 1, x 2, x 3, x 4, undef, undef, undef, undef, undef, undef, undef, undef, undef, undef, undef, undef, undef, undef, undef, undef, undef, undef, undef, undef, undef, undef, undef, undef, undef, undef, undef, undef, undef, undef, undef, undef, undef, undef, undef, undef, undef, undef, undef, undef, undef, undef, undef, undef, undef, undef, undef, undef, undef, undef, undef, undef, undef, undef, undef, undef, undef, undef, undef, undef, undef, undef, undef, undef, undef, undef, undef, undef, undef, undef, undef, undef, undef, undef, undef, undef, undef, undef, undef, undef, undef, undef, undef, undef, undef, undef, undef, undef, undef, undef, undef, undef, undef, undef, undef, undef, undef, undef, undef, undef, undef, undef, undef, undef, undef, undef, undef, undef, undef, undef, undef, undef, undef, undef, undef, undef, undef, undef, undef, undef, undef, undef, undef, undef, undef, undef, undef, undef, undef, undef, undef, undef, undef, undef, undef, undef, undef, undef, undef, undef, undef, undef, undef, undef, undef, undef, undef, undef, undef, undef, undef, undef, undef, undef, undef, undef, undef, undef, undef, undef, undef, undef, undef, undef, undef, undef, undef, undef, undef, undef, undef, undef, undef, undef, undef, undef, undef, undef, undef, undef, undef, undef, undef, undef, undef, undef, undef, undef, undef, undef, undef, undef, undef, undef, undef, undef, undef, undef, undef, undef, undef, undef, undef, undef, undef, undef, undef, undef, undef, undef, undef, undef, undef, undef, undef, undef], []⟩) (fun _ => undef) [fun _ x => x = .agg #[x0, x1, x2, x3, x4, x5, x6, x7, x8, x9, x10, x11, x12, x13, x14, x15, x16], fun v x => ∃ ka3 kc3 ka7 kc7 ka11 kc11, x = .agg #[.int .i64 30, .slice ka3 4 kc3, .int .i64 hei, .slice ka7 2 kc7, .slice ka11 2 kc11, .int .i64 9, .bool o] ∧ (IRow v ka3 [a0, a1, a2, a3] ∧ IRow v ka7 [u0, u1] ∧ IRow v ka11 [s0, s1]), fun v x => ∃ P T tc ba bc, x = .agg #[.int .i64 30, .slice (some ⟨P, 0, none⟩) 4 4, .int .i64 hei, .slice (some ⟨T, 0, none⟩) 2 tc, .slice ba 2 bc, .int .i64 9, .bool o] ∧ IRow v (some ⟨P, 0, none⟩) [a0, a1, a0, a1] ∧ IRow v (some ⟨T, 0, none⟩) [t0, t1] ∧ IRow v ba [s0, s1], fun _ x => x = .agg #[x0, x1, x2, x3, x4, x5, x6, x7, x8, x9, x10, x11, x12, x13, x14, x15, x16], fun _ x => x = .agg #[.int .i64 cl, .int .i64 ch], fun v x => ∃ b, x = .pointer (some ⟨b, 0, none⟩) ∧ U.heap.size ≤ b ∧ Own v b [.int .i64 0, .slice none 0 0, .int .i64 0, .slice none 0 0, .slice none 0 0, .int .i64 0, .bool false], fun v x => ∃ b, x = .pointer (some ⟨b, 0, none⟩) ∧ U.heap.size ≤ b ∧ Own v b [.int .i64 0, .int .i64 0]] (by rfl) (by kernel_rfl) (by kernel_rfl) (by kernel_rfl) (stays_cons (Stays.eq _) (stays_cons ((show Stays (fun v x => ∃ ka3 kc3 ka7 kc7 ka11 kc11, x = .agg #[.int .i64 30, .slice ka3 4 kc3, .int .i64 hei, .slice ka7 2 kc7, .slice ka11 2 kc11, .int .i64 9, .bool o] ∧ (IRow v ka3 [a0, a1, a2, a3] ∧ IRow v ka7 [u0, u1] ∧ IRow v ka11 [s0, s1])) from fun v v' x g ⟨a, b, c, d, e, f, h, r1, r2, r3⟩ => ⟨a, b, c, d, e, f, h, r1.grow g, r2.grow g, r3.grow g⟩)) (stays_cons ((show Stays (fun v x => ∃ P T tc ba bc, x = .agg #[.int .i64 30, .slice (some ⟨P, 0, none⟩) 4 4, .int .i64 hei, .slice (some ⟨T, 0, none⟩) 2 tc, .slice ba 2 bc, .int .i64 9, .bool o] ∧ IRow v (some ⟨P, 0, none⟩) [a0, a1, a0, a1] ∧ IRow v (some ⟨T, 0, none⟩) [t0, t1] ∧ IRow v ba [s0, s1]) from fun v v' x g ⟨P, T, t, b, c, h, r1, r2, r3⟩ => ⟨P, T, t, b, c, h, r1.grow g, r2.grow g, r3.grow g⟩)) (stays_cons (Stays.eq _) (stays_cons (Stays.eq _) (stays_cons ((show Stays (fun v x => ∃ b, x = .pointer (some ⟨b, 0, none⟩) ∧ U.heap.size ≤ b ∧ Own v b [.int .i64 0, .slice none 0 0, .int .i64 0, .slice none 0 0, .slice none 0 0, .int .i64 0, .bool false]) from fun v v' x g ⟨b, h, l, o⟩ => ⟨b, h, l, o.keep g⟩)) (stays_cons ((show Stays (fun v x => ∃ b, x = .pointer (some ⟨b, 0, none⟩) ∧ U.heap.size ≤ b ∧ Own v b [.int .i64 0, .int .i64 0]) from fun v v' x g ⟨b, h, l, o⟩ => ⟨b, h, l, o.keep g⟩)) stays_nil))))))) ?step1 ?fin1
 case step1 => as_aux_lemma =>
  rintro i hi x v gv hd K hK
  have hi8 : i = 0 ∨ i = 1 ∨ i = 2 ∨ i = 3 ∨ i = 4 ∨ i = 5 ∨ i = 6 := by omega
  rcases hi8 with rfl | rfl | rfl | rfl | rfl | rfl | rfl
  ·dsimp only [upd, Nat.reduceBEq, cond_true, cond_false]
   refine wpOp_step rfl (fun K' hK' => ?_)
   rw [if_pos (by rfl)]
   refine wp_load_mid 69 _ rfl w.heap.size 0 (by rfl) [x0, x1, x2, x3, x4, x5, x6, x7, x8, x9, x10, x11, x12, x13, x14, x15, x16] _ (fun j u hu => by rw [Nat.zero_add]; exact (h3.keep gv).2 j u hu) Try.underlying69 rfl (by kernel_rfl) ?_
   exact hK' _ _ (hK _ _ (Below.refl _ _) (at_of rfl (rfl)) (fun h => absurd h (by simp)))
  ·obtain ⟨x, rfl⟩ := upd_of (show x 0 = .agg #[x0, x1, x2, x3, x4, x5, x6, x7, x8, x9, x10, x11, x12, x13, x14, x15, x16] from hd 0 _ (by simp) rfl)
   dsimp only [upd, Nat.reduceBEq, cond_true, cond_false]
   refine wpOp_step rfl (fun K' hK' => ?_)
   go_simp
   refine (SB.out v).mono ?_
   rintro e v' ⟨w3, b3, w7, b7, w11, b11, rfl, hg, r1, k3, k7, k11⟩
   exact hK' _ _ (hK _ _ hg (at_of rfl (⟨_, _, _, _, _, _, rfl, r1⟩)) (fun _ b hb => .inl (agg_new k3 k7 k11 b hb)))
  ·obtain ⟨ka3, kc3, ka7, kc7, ka11, kc11, e1, r1⟩ := hd 1 _ (by simp) rfl
   obtain ⟨x, rfl⟩ := upd_of (show x 1 = .agg #[.int .i64 30, .slice ka3 4 kc3, .int .i64 hei, .slice ka7 2 kc7, .slice ka11 2 kc11, .int .i64 9, .bool o] from e1)
   dsimp only [upd, Nat.reduceBEq, cond_true, cond_false]
   refine wpOp_step rfl (fun K' hK' => ?_)
   go_simp
   refine (TW.out _ _ _ _ _ _ v r1.1 r1.2.1 r1.2.2).mono ?_
   rintro e v' ⟨P, T, tc, rfl, hg, rP, rT, lP, lT⟩
   exact hK' _ _ (hK _ _ hg (at_of rfl (⟨_, _, _, _, _, rfl, rP, rT, r1.2.2.grow hg⟩)) (fun _ b hb => (twin_own lP lT hb).imp id (fun h => ⟨by simp, 1, by simp, by simp, three_agg (.inr (.inr h))⟩)))
  ·dsimp only [upd, Nat.reduceBEq, cond_true, cond_false]
   refine wpOp_step rfl (fun K' hK' => ?_)
   rw [if_pos (by rfl)]
   refine wp_load_mid 69 _ rfl w.heap.size 0 (by rfl) [x0, x1, x2, x3, x4, x5, x6, x7, x8, x9, x10, x11, x12, x13, x14, x15, x16] _ (fun j u hu => by rw [Nat.zero_add]; exact (h3.keep gv).2 j u hu) Try.underlying69 rfl (by kernel_rfl) ?_
   exact hK' _ _ (hK _ _ (Below.refl _ _) (at_of rfl (rfl)) (fun h => absurd h (by simp)))
  ·obtain ⟨x, rfl⟩ := upd_of (show x 3 = .agg #[x0, x1, x2, x3, x4, x5, x6, x7, x8, x9, x10, x11, x12, x13, x14, x15, x16] from hd 3 _ (by simp) rfl)
   dsimp only [upd, Nat.reduceBEq, cond_true, cond_false]
   refine wpOp_step rfl (fun K' hK' => ?_)
   go_simp
   refine (SC.out v).mono ?_
   rintro e v' ⟨rfl, hg⟩
   exact hK' _ _ (hK _ _ hg (at_of rfl (rfl)) (fun h => absurd h (by simp)))
  ·dsimp only [upd, Nat.reduceBEq, cond_true, cond_false]
   refine wpOp_step rfl (fun K' hK' => ?_)
   go_simp
   have hg := Gr.al v (.cells #[.int .i64 0, .slice none 0 0, .int .i64 0, .slice none 0 0, .slice none 0 0, .int .i64 0, .bool false] 24)
   exact hK' _ _ (hK _ _ hg (at_of rfl (⟨_, rfl, gv.size, Own.new v [.int .i64 0, .slice none 0 0, .int .i64 0, .slice none 0 0, .slice none 0 0, .int .i64 0, .bool false] 24 v.heap.size rfl⟩)) (fun _ b hb => .inl (by simp [hasB, blkOf] at hb; subst hb; simp)))
  ·dsimp only [upd, Nat.reduceBEq, cond_true, cond_false]
   refine wpOp_step rfl (fun K' hK' => ?_)
   go_simp
   have hg := Gr.al v (.cells #[.int .i64 0, .int .i64 0] 37)
   exact hK' _ _ (hK _ _ hg (at_of rfl (⟨_, rfl, gv.size, Own.new v [.int .i64 0, .int .i64 0] 37 v.heap.size rfl⟩)) (fun _ b hb => .inl (by simp [hasB, blkOf] at hb; subst hb; simp)))
 case fin1 =>
  rintro x v gv hd hap
  obtain ⟨P, T, tc, ba, bc, e2, r2, r3, r4⟩ := hd 2 _ (by omega) rfl
  obtain ⟨x, rfl⟩ := upd_of (show x 2 = .agg #[.int .i64 30, .slice (some ⟨P, 0, none⟩) 4 4, .int .i64 hei, .slice (some ⟨T, 0, none⟩) 2 tc, .slice ba 2 bc, .int .i64 9, .bool o] from e2)
  obtain ⟨x, rfl⟩ := upd_of (show x 4 = .agg #[.int .i64 cl, .int .i64 ch] from hd 4 _ (by omega) rfl)
  obtain ⟨v5, e5, l5, o5⟩ := hd 5 _ (by omega) rfl
  obtain ⟨x, rfl⟩ := upd_of (show x 5 = .pointer (some ⟨v5, 0, none⟩) from e5)
  obtain ⟨v6, e6, l6, o6⟩ := hd 6 _ (by omega) rfl
  obtain ⟨x, rfl⟩ := upd_of (show x 6 = .pointer (some ⟨v6, 0, none⟩) from e6)
  clear hd
  show wpList Try.prog _ _ (List.drop 7 _) (⟨#[_, _, _, _, _, _, _, .pointer (some ⟨v5, 0, none⟩), .pointer (some ⟨v6, 0, none⟩), _, _, _, _, _, _, _, _, _, _, _, _, _, _, _, x 0, x 1, .agg #[.int .i64 30, .slice (some ⟨P, 0, none⟩) 4 4, .int .i64 hei, .slice (some ⟨T, 0, none⟩) 2 tc, .slice ba 2 bc, .int .i64 9, .bool o], x 3, .agg #[.int .i64 cl, .int .i64 ch], _, _, _, _, _, _, _, _, _, _, _, _, _, _, _, _, _, _, _, _, _, _, _, _, _, _, _, _, _, _, _, _, _, _, _, _, _, _, _, _, _, _, _, _, _, _, _, _, _, _, _, _, _, _, _, _, _, _, _, _, _, _, _, _, _, _, _, _, _, _, _, _, _, _, _, _, _, _, _, _, _, _, _, _, _, _, _, _, _, _, _, _, _, _, _, _, _, _, _, _, _, _, _, _, _, _, _, _, _, _, _, _, _, _, _, _, _, _, _, _, _, _, _, _, _, _, _, _, _, _, _, _, _, _, _, _, _, _, _, _, _, _, _, _, _, _, _, _, _, _, _, _, _, _, _, _, _, _, _, _, _, _, _, _, _, _, _, _, _, _, _, _, _, _, _, _, _, _, _, _, _, _, _, _, _, _, _, _, _, _, _, _, _, _, _, _, _, _, _, _, _, _, _, _, _, _, _, _, _, _, _, _, _, _, _, _], []⟩ : Act) v
  simp only [List.drop_succ_cons, List.drop_zero]
  have d56 : v5 ≠ v6 := fun e => hap 5 6 (by simp) (by simp) (by simp) (by omega) (by omega) v6 (by rw [e5, e]; simp [hasB, blkOf]) (by rw [e6]; simp [hasB, blkOf])
  have NA := Lib.hid (show ∀ r, hasB (.agg #[.int .i64 30, .slice (some ⟨P, 0, none⟩) 4 4, .int .i64 hei, .slice (some ⟨T, 0, none⟩) 2 tc, .slice ba 2 bc, .int .i64 9, .bool o]) r → r ≠ v5 ∧ r ≠ v6 from fun r h => ⟨fun e => hap 2 5 (by simp) (by simp) (by simp) (by omega) (by omega) r (by rw [e2]; exact h) (by rw [e5, e]; simp [hasB, blkOf]), fun e => hap 2 6 (by simp) (by simp) (by simp) (by omega) (by omega) r (by rw [e2]; exact h) (by rw [e6, e]; simp [hasB, blkOf])⟩)
  clear hap e2 e5 e6
  have s5_0 := o5.1.2 0 _ rfl
  have z5_0 := o5.2 0
  have s5_1 := o5.1.2 1 _ rfl
  have z5_1 := o5.2 1
  have s5_2 := o5.1.2 2 _ rfl
  have z5_2 := o5.2 2
  have s5_3 := o5.1.2 3 _ rfl
  have z5_3 := o5.2 3
  have s5_4 := o5.1.2 4 _ rfl
  have z5_4 := o5.2 4
  have s5_5 := o5.1.2 5 _ rfl
  have z5_5 := o5.2 5
  have s5_6 := o5.1.2 6 _ rfl
  have z5_6 := o5.2 6
  have s6_0 := o6.1.2 0 _ rfl
  have z6_0 := o6.2 0
  have s6_1 := o6.1.2 1 _ rfl
  have z6_1 := o6.2 1
  go_upto_region 2 with fail
  clear s5_0 z5_0 s5_1 z5_1 s5_2 z5_2 s5_3 z5_3 s5_4 z5_4 s5_5 z5_5 s5_6 z5_6 s6_0 z6_0 s6_1 z6_1
  refine wp_abs (fun Z => Gr U Z ∧ Own Z v5 [.int .i64 30, .slice (some ⟨P, 0, none⟩) 4 4, .int .i64 hei, .slice (some ⟨T, 0, none⟩) 2 tc, .slice ba 2 bc, .int .i64 9, .bool o] ∧ Own Z v6 [.int .i64 cl, .int .i64 ch] ∧ Kx (fun j => j = v5 ∨ j = v6) v Z) ⟨(((((((((gv.setCell (p := ⟨v5, 0, none⟩) l5 _).setCell (p := ⟨v5, 1, none⟩) l5 _).setCell (p := ⟨v5, 2, none⟩) l5 _).setCell (p := ⟨v5, 3, none⟩) l5 _).setCell (p := ⟨v5, 4, none⟩) l5 _).setCell (p := ⟨v5, 5, none⟩) l5 _).setCell (p := ⟨v5, 6, none⟩) l5 _).setCell (p := ⟨v6, 0, none⟩) l6 _).setCell (p := ⟨v6, 1, none⟩) l6 _), (((((((((o5.set (i := 0) (by simp)).set (i := 1) (by simp)).set (i := 2) (by simp)).set (i := 3) (by simp)).set (i := 4) (by simp)).set (i := 5) (by simp)).set (i := 6) (by simp)).other d56).other d56), (((((((((o6.other (Ne.symm d56)).other (Ne.symm d56)).other (Ne.symm d56)).other (Ne.symm d56)).other (Ne.symm d56)).other (Ne.symm d56)).other (Ne.symm d56)).set (i := 0) (by simp)).set (i := 1) (by simp)), ((((((((((Kx.refl _ _).tr (Kx.set (Z := fun j => j = v5 ∨ j = v6) (p := ⟨v5, 0, none⟩) (.inl rfl) _)).tr (Kx.set (Z := fun j => j = v5 ∨ j = v6) (p := ⟨v5, 1, none⟩) (.inl rfl) _)).tr (Kx.set (Z := fun j => j = v5 ∨ j = v6) (p := ⟨v5, 2, none⟩) (.inl rfl) _)).tr (Kx.set (Z := fun j => j = v5 ∨ j = v6) (p := ⟨v5, 3, none⟩) (.inl rfl) _)).tr (Kx.set (Z := fun j => j = v5 ∨ j = v6) (p := ⟨v5, 4, none⟩) (.inl rfl) _)).tr (Kx.set (Z := fun j => j = v5 ∨ j = v6) (p := ⟨v5, 5, none⟩) (.inl rfl) _)).tr (Kx.set (Z := fun j => j = v5 ∨ j = v6) (p := ⟨v5, 6, none⟩) (.inl rfl) _)).tr (Kx.set (Z := fun j => j = v5 ∨ j = v6) (p := ⟨v6, 0, none⟩) (.inr rfl) _)).tr (Kx.set (Z := fun j => j = v5 ∨ j = v6) (p := ⟨v6, 1, none⟩) (.inr rfl) _))⟩ ?_
  clear gv o5 o6
  rintro Z ⟨gZ, oL, oA, KX⟩
  have KX := Lib.hid KX
  have ne3 : ∀ b off, (some ⟨P, 0, none⟩ : Option Addr) = some ⟨b, off, none⟩ → ¬ (b = v5 ∨ b = v6) := fun b off e e2 => by cases e; have h8 := NA.out P (three_agg (.inl rfl)); omega
  have ne7 : ∀ b off, (some ⟨T, 0, none⟩ : Option Addr) = some ⟨b, off, none⟩ → ¬ (b = v5 ∨ b = v6) := fun b off e e2 => by cases e; have h8 := NA.out T (three_agg (.inr (.inl rfl))); omega
  have ne11 : ∀ b off, ba = some ⟨b, off, none⟩ → ¬ (b = v5 ∨ b = v6) := fun b off e e2 => by have h8 := NA.out b (three_agg (.inr (.inr (by rw [e]; rfl)))); omega
  replace r2 := RowOf.kx r2 KX.out ne3
  replace r3 := RowOf.kx r3 KX.out ne7
  replace r4 := RowOf.kx r4 KX.out ne11
  clear KX NA ne3 ne7 ne11
  replace h3 := h3.keep gZ
  replace gU := gU.tr gZ
  have lv5 := l5
  have lv6 := l6
  clear gZ d56 l5 l6
  replace oL := oL.1
  replace oA := oA.1
  have q0 := h3.2 0 _ rfl
  have q1 := h3.2 1 _ rfl
  have q2 := h3.2 2 _ rfl
  have q3 := h3.2 3 _ rfl
  have q4 := h3.2 4 _ rfl
  have q5 := h3.2 5 _ rfl
  have q6 := h3.2 6 _ rfl
  have q7 := h3.2 7 _ rfl
  have q8 := h3.2 8 _ rfl
  have q9 := h3.2 9 _ rfl
  have q10 := h3.2 10 _ rfl
  have q11 := h3.2 11 _ rfl
  have q12 := h3.2 12 _ rfl
  have q13 := h3.2 13 _ rfl
  have q14 := h3.2 14 _ rfl
  have q15 := h3.2 15 _ rfl
  have q16 := h3.2 16 _ rfl
  obtain ⟨b0, b1, b2, b3, b4, b5, b6⟩ := oL.c7
  obtain ⟨c0, c1⟩ := oA.c2
  go_upto_region 3 with (go_at_call 41; refine (WI.out _ _ _ _ _ _ _ r2 r3 r4).mono ?_; rintro e wW ⟨rfl, gW⟩)
  clear b0 b1 b2 b3 b4 b5 b6 c0 c1 q0 q1 q2 q3 q4 q5 q6 q7 q8 q9 q10 q11 q12 q13 q14 q15 q16
  obtain ⟨D, hD⟩ : ∃ D, D = wW.heap.size := ⟨_, rfl⟩
  have oW := Box.new wW [.int .i64 W.ll, .int .i64 W.lh, .int .i64 W.wl, .int .i64 W.wh, .int .i64 W.hl, .int .i64 W.hh, .int .i64 W.ol, .int .i64 W.oh, .int .i64 W.il, .int .i64 W.ih, .bool W.wo] 48 D hD
  rw [← hD]
  refine wp_abs (fun X => Gr Z X ∧ Box X D [.int .i64 W.ll, .int .i64 W.lh, .int .i64 W.wl, .int .i64 W.wh, .int .i64 W.hl, .int .i64 W.hh, .int .i64 W.ol, .int .i64 W.oh, .int .i64 W.il, .int .i64 W.ih, .bool W.wo]) ⟨gW.tr (Gr.al _ _), oW⟩ ?_
  clear gW oW hD h3
  rintro Y ⟨gY, oW⟩
  replace gU := gU.tr gY
  replace oL := oL.keep gY
  replace oA := oA.keep gY
  replace r2 := r2.grow gY
  replace r3 := r3.grow gY
  replace r4 := r4.grow gY
  clear gY
  have HB := Lib.hid HS.out.ok
  have HC := Lib.hid HK.out.ok
  have CL := Lib.hid (fun pa ta ba pc tc bc v h1 h2 h3 => (close4_any a0 a1 a0 a1 t0 t1 s0 s1 hei o W cl ch HB.out HW.out HC.out pa ta ba pc tc bc v h1 h2 h3).mono fun e w' h => h.none H0.out.1)
  obtain ⟨cm, hlo⟩ : ∃ z, (calTo (holdW a0 a1 a0 a1 t0 t1 s0 s1 hei o W) 10).lo = z := ⟨_, rfl⟩
  obtain ⟨cx, hhi⟩ : ∃ z, (calTo (holdW a0 a1 a0 a1 t0 t1 s0 s1 hei o W) 10).hi = z := ⟨_, rfl⟩
  have bcal := calTo_bd (holdW a0 a1 a0 a1 t0 t1 s0 s1 hei o W) 10
  have h0c := H0.out.2
  rw [hlo, hhi] at bcal h0c
  have bk := HK.out
  unfold Cal4 at bk
  have LH : Hid ((1 ≤ cm ∧ cm ≤ cl) ∧ (ch ≤ cx ∧ cx ≤ 10000)) := Lib.hid ⟨⟨bcal.1, h0c.1⟩, h0c.2, bcal.2⟩
  have CA := Lib.hid (fun pa ta ba pc tc bc v h1 h2 h3 => (cal4_any a0 a1 a0 a1 t0 t1 s0 s1 hei o W HB.out HW.out pa ta ba pc tc bc v h1 h2 h3).mono fun e w' h => h.some (by rw [hlo, hhi]; omega))
  rw [hlo, hhi] at CA
  have IN := Lib.hid (fun pa ta ba pc tc bc v h1 h2 h3 => inner4_any a0 a1 a0 a1 t0 t1 s0 s1 hei o cl ch HB.out HC.out pa ta ba pc tc bc v h1 h2 h3)
  clear hlo hhi bcal h0c bk
  refine (show (∀ sa : Nat → Value, Code.wp Try.prog _ _ ⟨#[sa 0, .int .u8 wh, .int .u8 by0, sa 3, sa 4, sa 5, .bool false, .pointer (some ⟨v5, 0, none⟩), .pointer (some ⟨v6, 0, none⟩), .pointer (some ⟨D, 0, none⟩), undef, undef, undef, undef, undef, undef, undef, undef, undef, undef, undef, undef, undef, undef, sa 24, sa 25, sa 26, sa 27, sa 28, sa 29, sa 30, sa 31, sa 32, undef, undef, undef, undef, undef, undef, undef, undef, undef, undef, undef, undef, undef, undef, undef, undef, undef, undef, undef, undef, undef, undef, undef, undef, undef, undef, undef, undef, undef, undef, undef, undef, undef, undef, undef, undef, undef, undef, undef, undef, undef, undef, undef, undef, undef, undef, undef, undef, undef, undef, undef, undef, undef, undef, undef, undef, undef, undef, undef, undef, undef, undef, undef, undef, undef, undef, undef, undef, undef, undef, undef, undef, undef, undef, undef, undef, undef, undef, undef, undef, undef, undef, undef, undef, undef, undef, undef, undef, undef, undef, undef, undef, undef, undef, undef, undef, undef, undef, undef, undef, undef, undef, undef, undef, undef, undef, undef, undef, undef, undef, undef, undef, undef, undef, undef, undef, undef, undef, undef, undef, undef, undef, undef, undef, undef, undef, undef, undef, undef, undef, undef, undef, undef, undef, undef, undef, undef, undef, undef, undef, undef, undef, undef, undef, undef, undef, undef, undef, undef, undef, undef, undef, undef, undef, undef, undef, undef, undef, undef, undef, undef, undef, undef, undef, undef, undef, undef, undef, undef, undef, undef, undef, undef, undef, undef, undef, undef, undef, undef, undef, undef, undef, undef, undef, undef, undef, undef, undef, undef, undef, undef, undef, undef, undef, undef, undef, undef, undef, undef, undef, undef, undef, undef, undef, undef, undef, undef, undef, undef, undef, undef, undef], []⟩ _) → _ from fun h => h ((fun l : List Value => fun i => l.getD i undef) [_, undef, undef, _, _, _, undef, undef, undef, undef, undef, undef, undef, undef, undef, undef, undef, undef, undef, undef, undef, undef, undef, undef, _, _, _, _, _, _, _, _, _])) ?_
  intro sa
  dsimp only
  refine wp_region_facts 9 [(1, 0), (4, 1), (4, 2), (4, 3), (5, 4), (6, 5), (7, 5), (8, 6)] (fun x => ⟨#[sa 0, .int .u8 wh, .int .u8 by0, sa 3, sa 4, sa 5, .bool false, .pointer (some ⟨v5, 0, none⟩), .pointer (some ⟨v6, 0, none⟩), .pointer (some ⟨D, 0, none⟩), x 8, undef, undef, undef, undef, undef, undef, undef, undef, undef, undef, undef, undef, undef, sa 24, sa 25, sa 26, sa 27, sa 28, sa 29, sa 30, sa 31, sa 32, x 5, x 0, x 1, x 2, x 3, x 4, x 6, x 7, undef, undef, undef, undef, undef, undef, undef, undef, undef, undef, undef, undef, undef, undef, undef, undef, undef, undef, undef, undef, undef, undef, undef, undef, undef, undef, undef, undef, undef, undef, undef, undef, undef, undef, undef, undef, undef, undef, undef, undef, undef, undef, undef, undef, undef, undef, undef, undef, undef, undef, undef, undef, undef, undef, undef, undef, undef, undef, undef, undef, undef, undef, undef, undef, undef, undef, undef, undef, undef, undef, undef, undef, undef, undef, undef, undef, undef, undef, undef, undef, undef, undef, undef, undef, undef, undef, undef, undef, undef, undef, undef, undef, undef, undef, undef, undef, undef, undef, undef, undef, undef, undef, undef, undef, undef, undef, undef, undef, undef, undef, undef, undef, undef, undef, undef, undef, undef, undef, undef, undef, undef, undef, undef, undef, undef, undef, undef, undef, undef, undef, undef, undef, undef, undef, undef, undef, undef, undef, undef, undef, undef, undef, undef, undef, undef, undef, undef, undef, undef, undef, undef, undef, undef, undef, undef, undef, undef, undef, undef, undef, undef, undef, undef, undef, undef, undef, undef, undef, undef, undef, undef, undef, undef, undef, undef, undef, undef, undef, undef, undef, undef, undef, undef, undef, undef, undef, undef, undef, undef, undef, undef, undef, undef, undef, undef, undef, undef, undef, undef, undef, undef, undef, undef, undef], []⟩) (fun _ => undef) [fun _ x => x = .agg #[.int .i64 30, .slice (some ⟨P, 0, none⟩) 4 4, .int .i64 hei, .slice (some ⟨T, 0, none⟩) 2 tc, .slice ba 2 bc, .int .i64 9, .bool o], fun v x => ∃ naa3 nac3 naa7 nac7 naa11 nac11, x = .agg #[.int .i64 30, .slice naa3 4 nac3, .int .i64 hei, .slice naa7 2 nac7, .slice naa11 2 nac11, .int .i64 9, .bool o] ∧ (IRow v naa3 [a0, a1, a0, a1] ∧ IRow v naa7 [t0, t1] ∧ IRow v naa11 [s0, s1]), fun _ x => x = .agg #[.int .i64 W.ll, .int .i64 W.lh, .int .i64 W.wl, .int .i64 W.wh, .int .i64 W.hl, .int .i64 W.hh, .int .i64 W.ol, .int .i64 W.oh, .int .i64 W.il, .int .i64 W.ih, .bool W.wo], fun _ x => x = .agg #[.int .i64 cl, .int .i64 ch], fun v x => ∃ sl4 cp4, x = .tuple #[.slice sl4 0 cp4, .int .i64 0], fun v x => ∃ sl5 cp5, x = .tuple #[.slice sl5 0 cp5, .int .i64 0], fun v x => ∃ sl6 cp6, x = .slice sl6 0 cp6, fun _ x => x = .int .i64 0, fun v x => ∃ sl8 cp8, x = .slice sl8 0 cp8] (by rfl) (by kernel_rfl) (by kernel_rfl) (by kernel_rfl) (stays_cons (Stays.eq _) (stays_cons ((show Stays (fun v x => ∃ naa3 nac3 naa7 nac7 naa11 nac11, x = .agg #[.int .i64 30, .slice naa3 4 nac3, .int .i64 hei, .slice naa7 2 nac7, .slice naa11 2 nac11, .int .i64 9, .bool o] ∧ (IRow v naa3 [a0, a1, a0, a1] ∧ IRow v naa7 [t0, t1] ∧ IRow v naa11 [s0, s1])) from fun v v' x g ⟨a, b, c, d, e, f, h, r1, r2, r3⟩ => ⟨a, b, c, d, e, f, h, r1.grow g, r2.grow g, r3.grow g⟩)) (stays_cons (Stays.eq _) (stays_cons (Stays.eq _) (stays_cons ((show Stays (fun v x => ∃ sl4 cp4, x = .tuple #[.slice sl4 0 cp4, .int .i64 0]) from fun v v' x g h => h)) (stays_cons ((show Stays (fun v x => ∃ sl5 cp5, x = .tuple #[.slice sl5 0 cp5, .int .i64 0]) from fun v v' x g h => h)) (stays_cons ((show Stays (fun v x => ∃ sl6 cp6, x = .slice sl6 0 cp6) from fun v v' x g h => h)) (stays_cons (Stays.eq _) (stays_cons ((show Stays (fun v x => ∃ sl8 cp8, x = .slice sl8 0 cp8) from fun v v' x g h => h)) stays_nil))))))))) ?step3 ?fin3
  case step3 => as_aux_lemma =>
   rintro i hi x v gv hd K hK
   have hi8 : i = 0 ∨ i = 1 ∨ i = 2 ∨ i = 3 ∨ i = 4 ∨ i = 5 ∨ i = 6 ∨ i = 7 ∨ i = 8 := by omega
   rcases hi8 with rfl | rfl | rfl | rfl | rfl | rfl | rfl | rfl | rfl
   ·dsimp only [upd, Nat.reduceBEq, cond_true, cond_false]
    refine wpOp_step rfl (fun K' hK' => ?_)
    rw [if_pos (by rfl)]
    refine wp_load_mid 24 _ rfl v5 0 (by rfl) [.int .i64 30, .slice (some ⟨P, 0, none⟩) 4 4, .int .i64 hei, .slice (some ⟨T, 0, none⟩) 2 tc, .slice ba 2 bc, .int .i64 9, .bool o] _ (fun j u hu => by rw [Nat.zero_add]; exact (oL.keep gv).2 j u hu) Try.underlying24 rfl (by kernel_rfl) ?_
    exact hK' _ _ (hK _ _ (Below.refl _ _) (at_of rfl (rfl)))
   ·obtain ⟨x, rfl⟩ := upd_of (show x 0 = .agg #[.int .i64 30, .slice (some ⟨P, 0, none⟩) 4 4, .int .i64 hei, .slice (some ⟨T, 0, none⟩) 2 tc, .slice ba 2 bc, .int .i64 9, .bool o] from hd 0 _ (by simp) rfl)
    dsimp only [upd, Nat.reduceBEq, cond_true, cond_false]
    refine wpOp_step rfl (fun K' hK' => ?_)
    go_simp
    refine (own4_any a0 a1 a0 a1 t0 t1 s0 s1 hei o _ _ _ _ _ _ v (r2.grow gv) (r3.grow gv) (r4.grow gv)).mono ?_
    rintro e v' ⟨w3, b3, w7, b7, w11, b11, rfl, hg, r1, r2, r3⟩
    exact hK' _ _ (hK _ _ hg (at_of rfl (⟨_, _, _, _, _, _, rfl, r1, r2, r3⟩)))
   ·dsimp only [upd, Nat.reduceBEq, cond_true, cond_false]
    refine wpOp_step rfl (fun K' hK' => ?_)
    rw [if_pos (by rfl)]
    refine wp_load_mid 48 _ rfl D 0 (by rfl) [.int .i64 W.ll, .int .i64 W.lh, .int .i64 W.wl, .int .i64 W.wh, .int .i64 W.hl, .int .i64 W.hh, .int .i64 W.ol, .int .i64 W.oh, .int .i64 W.il, .int .i64 W.ih, .bool W.wo] _ (fun j u hu => by rw [Nat.zero_add]; exact (oW.keep gv).2 j u hu) Try.underlying48 rfl (by kernel_rfl) ?_
    exact hK' _ _ (hK _ _ (Below.refl _ _) (at_of rfl (rfl)))
   ·dsimp only [upd, Nat.reduceBEq, cond_true, cond_false]
    refine wpOp_step rfl (fun K' hK' => ?_)
    rw [if_pos (by rfl)]
    refine wp_load_mid 37 _ rfl v6 0 (by rfl) [.int .i64 cl, .int .i64 ch] _ (fun j u hu => by rw [Nat.zero_add]; exact (oA.keep gv).2 j u hu) Try.underlying37 rfl (by kernel_rfl) ?_
    exact hK' _ _ (hK _ _ (Below.refl _ _) (at_of rfl (rfl)))
   ·obtain ⟨naa3, nac3, naa7, nac7, naa11, nac11, e1, r1⟩ := hd 1 _ (by simp) rfl
    obtain ⟨x, rfl⟩ := upd_of (show x 1 = .agg #[.int .i64 30, .slice naa3 4 nac3, .int .i64 hei, .slice naa7 2 nac7, .slice naa11 2 nac11, .int .i64 9, .bool o] from e1)
    obtain ⟨x, rfl⟩ := upd_of (show x 2 = .agg #[.int .i64 W.ll, .int .i64 W.lh, .int .i64 W.wl, .int .i64 W.wh, .int .i64 W.hl, .int .i64 W.hh, .int .i64 W.ol, .int .i64 W.oh, .int .i64 W.il, .int .i64 W.ih, .bool W.wo] from hd 2 _ (by simp) rfl)
    obtain ⟨x, rfl⟩ := upd_of (show x 3 = .agg #[.int .i64 cl, .int .i64 ch] from hd 3 _ (by simp) rfl)
    dsimp only [upd, Nat.reduceBEq, cond_true, cond_false]
    refine wpOp_step rfl (fun K' hK' => ?_)
    go_simp
    refine (CL.out _ _ _ _ _ _ v r1.1 r1.2.1 r1.2.2).mono ?_
    rintro e v' ⟨a9, c9, rfl, hg⟩
    exact hK' _ _ (hK _ _ hg (at_of rfl (⟨_, _, rfl⟩)))
   ·obtain ⟨sl4, cp4, e4⟩ := hd 4 _ (by simp) rfl
    obtain ⟨x, rfl⟩ := upd_of (show x 4 = .tuple #[.slice sl4 0 cp4, .int .i64 0] from e4)
    dsimp only [upd, Nat.reduceBEq, cond_true, cond_false]
    refine wpOp_step rfl (fun K' hK' => ?_)
    go_simp
    exact hK' _ _ (hK _ _ (Below.refl _ _) (at_of rfl (⟨_, _, rfl⟩)))
   ·obtain ⟨sl5, cp5, e5⟩ := hd 5 _ (by simp) rfl
    obtain ⟨x, rfl⟩ := upd_of (show x 5 = .tuple #[.slice sl5 0 cp5, .int .i64 0] from e5)
    dsimp only [upd, Nat.reduceBEq, cond_true, cond_false]
    refine wpOp_step rfl (fun K' hK' => ?_)
    go_simp
    exact hK' _ _ (hK _ _ (Below.refl _ _) (at_of rfl (⟨_, _, rfl⟩)))
   ·obtain ⟨sl5, cp5, e5⟩ := hd 5 _ (by simp) rfl
    obtain ⟨x, rfl⟩ := upd_of (show x 5 = .tuple #[.slice sl5 0 cp5, .int .i64 0] from e5)
    dsimp only [upd, Nat.reduceBEq, cond_true, cond_false]
    refine wpOp_step rfl (fun K' hK' => ?_)
    go_simp
    exact hK' _ _ (hK _ _ (Below.refl _ _) (at_of rfl (rfl)))
   ·obtain ⟨sl6, cp6, e6⟩ := hd 6 _ (by simp) rfl
    obtain ⟨x, rfl⟩ := upd_of (show x 6 = .slice sl6 0 cp6 from e6)
    dsimp only [upd, Nat.reduceBEq, cond_true, cond_false]
    refine wpOp_step rfl (fun K' hK' => ?_)
    go_simp
    exact hK' _ _ (hK _ _ (Below.refl _ _) (at_of rfl (⟨_, _, rfl⟩)))
  case fin3 =>
   rintro x v gv hd
   obtain ⟨x, rfl⟩ := upd_of (show x 7 = .int .i64 0 from hd 7 _ (by omega) rfl)
   obtain ⟨sl8, cp8, e8⟩ := hd 8 _ (by omega) rfl
   obtain ⟨x, rfl⟩ := upd_of (show x 8 = .slice sl8 0 cp8 from e8)
   clear hd
   show wpList Try.prog _ _ (List.drop 9 _) (⟨#[_, _, _, _, _, _, _, _, _, _, .slice sl8 0 cp8, _, _, _, _, _, _, _, _, _, _, _, _, _, _, _, _, _, _, _, _, _, _, x 5, x 0, x 1, x 2, x 3, x 4, x 6, .int .i64 0, _, _, _, _, _, _, _, _, _, _, _, _, _, _, _, _, _, _, _, _, _, _, _, _, _, _, _, _, _, _, _, _, _, _, _, _, _, _, _, _, _, _, _, _, _, _, _, _, _, _, _, _, _, _, _, _, _, _, _, _, _, _, _, _, _, _, _, _, _, _, _, _, _, _, _, _, _, _, _, _, _, _, _, _, _, _, _, _, _, _, _, _, _, _, _, _, _, _, _, _, _, _, _, _, _, _, _, _, _, _, _, _, _, _, _, _, _, _, _, _, _, _, _, _, _, _, _, _, _, _, _, _, _, _, _, _, _, _, _, _, _, _, _, _, _, _, _, _, _, _, _, _, _, _, _, _, _, _, _, _, _, _, _, _, _, _, _, _, _, _, _, _, _, _, _, _, _, _, _, _, _, _, _, _, _, _, _, _, _, _, _, _, _, _, _, _, _, _, _, _, _, _, _, _], []⟩ : Act) v
   simp only [List.drop_succ_cons, List.drop_zero]
   replace gU := gU.tr gv
   replace oL := oL.keep gv
   replace oA := oA.keep gv
   replace r2 := r2.grow gv
   replace r3 := r3.grow gv
   replace r4 := r4.grow gv
   replace oW := oW.keep gv
   clear gv e8
   go_upto_region 4 with fail
   refine wp_abs (fun Q => Gr v Q) (Below.refl _ _) ?_
   rintro V gV
   replace gU := gU.tr gV
   replace oL := oL.keep gV
   replace oA := oA.keep gV
   replace r2 := r2.grow gV
   replace r3 := r3.grow gV
   replace r4 := r4.grow gV
   replace oW := oW.keep gV
   clear gV
   refine (show (∀ sb : Nat → Value, Code.wp Try.prog _ _ ⟨#[sb 0, .int .u8 wh, .int .u8 by0, sb 3, sb 4, sb 5, .bool false, .pointer (some ⟨v5, 0, none⟩), .pointer (some ⟨v6, 0, none⟩), .pointer (some ⟨D, 0, none⟩), .slice sl8 0 cp8, .int .i64 0, undef, undef, undef, undef, undef, undef, undef, undef, undef, undef, undef, undef, sb 24, sb 25, sb 26, sb 27, sb 28, sb 29, sb 30, sb 31, sb 32, sb 33, sb 34, sb 35, sb 36, sb 37, sb 38, sb 39, sb 40, undef, undef, undef, undef, undef, undef, undef, undef, undef, undef, undef, undef, undef, undef, undef, undef, undef, undef, undef, undef, undef, undef, undef, undef, undef, undef, undef, undef, undef, undef, undef, undef, undef, undef, undef, undef, undef, undef, undef, undef, undef, undef, undef, undef, undef, undef, undef, undef, undef, undef, undef, undef, undef, undef, undef, undef, undef, undef, undef, undef, undef, undef, undef, undef, undef, undef, undef, undef, undef, undef, undef, undef, undef, undef, undef, undef, undef, undef, undef, undef, undef, undef, undef, undef, undef, undef, undef, undef, undef, undef, undef, undef, undef, undef, undef, undef, undef, undef, undef, undef, undef, undef, undef, undef, undef, undef, undef, undef, undef, undef, undef, undef, undef, undef, undef, undef, undef, undef, undef, undef, undef, undef, undef, undef, undef, undef, undef, undef, undef, undef, undef, undef, undef, undef, undef, undef, undef, undef, undef, undef, undef, undef, undef, undef, undef, undef, undef, undef, undef, undef, undef, undef, undef, undef, undef, undef, undef, undef, undef, undef, undef, undef, undef, undef, undef, undef, undef, undef, undef, undef, undef, undef, undef, undef, undef, undef, undef, undef, undef, undef, undef, undef, undef, undef, undef, undef, undef, undef, undef, undef, undef, undef, undef, undef, undef, undef, undef, undef, undef, undef, undef, undef, undef, undef], []⟩ _) → _ from fun h => h ((fun l : List Value => fun i => l.getD i undef) [_, undef, undef, _, _, _, undef, undef, undef, undef, undef, undef, undef, undef, undef, undef, undef, undef, undef, undef, undef, undef, undef, undef, _, _, _, _, _, _, _, _, _, _, _, _, _, _, _, _, _])) ?_
   intro sb
   dsimp only
   refine wp_region_late 9 7 8 [6] [.int .i64 0, .int .i64 0] [.int .i64 cm, .int .i64 cx] 37 [(1, 0), (3, 1), (3, 2), (4, 3), (5, 4), (6, 4), (8, 0), (8, 1), (8, 2), (8, 3), (8, 4), (8, 5), (8, 7)] (fun x => ⟨#[sb 0, .int .u8 wh, .int .u8 by0, sb 3, sb 4, sb 5, .bool false, .pointer (some ⟨v5, 0, none⟩), .pointer (some ⟨v6, 0, none⟩), .pointer (some ⟨D, 0, none⟩), .slice sl8 0 cp8, .int .i64 0, x 7, undef, undef, undef, undef, undef, undef, undef, undef, undef, undef, undef, sb 24, sb 25, sb 26, sb 27, sb 28, sb 29, sb 30, sb 31, sb 32, sb 33, sb 34, sb 35, sb 36, sb 37, sb 38, sb 39, sb 40, x 4, x 0, x 1, x 2, x 3, x 5, x 6, undef, undef, undef, undef, undef, undef, undef, undef, undef, undef, undef, undef, undef, undef, undef, undef, undef, undef, undef, undef, undef, undef, undef, undef, undef, undef, undef, undef, undef, undef, undef, undef, undef, undef, undef, undef, undef, undef, undef, undef, undef, undef, undef, undef, undef, undef, undef, undef, undef, undef, undef, undef, undef, undef, undef, undef, undef, undef, undef, undef, undef, undef, undef, undef, undef, undef, undef, undef, undef, undef, undef, undef, undef, undef, undef, undef, undef, undef, undef, undef, undef, undef, undef, undef, undef, undef, undef, undef, undef, undef, undef, undef, undef, undef, undef, undef, undef, undef, undef, undef, undef, undef, undef, undef, undef, undef, undef, undef, undef, undef, undef, undef, undef, undef, undef, undef, undef, undef, undef, undef, undef, undef, undef, undef, undef, undef, undef, undef, undef, undef, undef, undef, undef, undef, undef, undef, undef, undef, undef, undef, undef, undef, undef, undef, undef, undef, undef, undef, undef, undef, undef, undef, undef, undef, undef, undef, undef, undef, undef, undef, undef, undef, undef, undef, undef, undef, undef, undef, undef, undef, undef, undef, undef, undef, undef, undef, undef, undef, undef, undef, undef, undef, undef, undef, undef, undef, undef, undef, undef, undef, undef, undef, undef, undef, undef, undef, undef], []⟩) (fun _ => undef) [fun _ x => x = .agg #[.int .i64 30, .slice (some ⟨P, 0, none⟩) 4 4, .int .i64 hei, .slice (some ⟨T, 0, none⟩) 2 tc, .slice ba 2 bc, .int .i64 9, .bool o], fun v x => ∃ naa3 nac3 naa7 nac7 naa11 nac11, x = .agg #[.int .i64 30, .slice naa3 4 nac3, .int .i64 hei, .slice naa7 2 nac7, .slice naa11 2 nac11, .int .i64 9, .bool o] ∧ (IRow v naa3 [a0, a1, a0, a1] ∧ IRow v naa7 [t0, t1] ∧ IRow v naa11 [s0, s1]), fun _ x => x = .agg #[.int .i64 W.ll, .int .i64 W.lh, .int .i64 W.wl, .int .i64 W.wh, .int .i64 W.hl, .int .i64 W.hh, .int .i64 W.ol, .int .i64 W.oh, .int .i64 W.il, .int .i64 W.ih, .bool W.wo], fun _ x => x = .tuple #[.agg #[.int .i64 cm, .int .i64 cx], .int .i64 0], fun _ x => x = .tuple #[.agg #[.int .i64 cm, .int .i64 cx], .int .i64 0], fun _ x => x = .agg #[.int .i64 cm, .int .i64 cx], fun _ x => x = .int .i64 0, fun _ _ => True, fun _ _ => True] (by rfl) (by kernel_rfl) (by kernel_rfl) (by kernel_rfl) (stays_cons (Stays.eq _) (stays_cons ((show Stays (fun v x => ∃ naa3 nac3 naa7 nac7 naa11 nac11, x = .agg #[.int .i64 30, .slice naa3 4 nac3, .int .i64 hei, .slice naa7 2 nac7, .slice naa11 2 nac11, .int .i64 9, .bool o] ∧ (IRow v naa3 [a0, a1, a0, a1] ∧ IRow v naa7 [t0, t1] ∧ IRow v naa11 [s0, s1])) from fun v v' x g ⟨a, b, c, d, e, f, h, r1, r2, r3⟩ => ⟨a, b, c, d, e, f, h, r1.grow g, r2.grow g, r3.grow g⟩)) (stays_cons (Stays.eq _) (stays_cons (Stays.eq _) (stays_cons (Stays.eq _) (stays_cons (Stays.eq _) (stays_cons (Stays.eq _) (stays_cons (Stays.tr) (stays_cons (Stays.tr) stays_nil))))))))) (by decide) (by decide) ?step4 ?pa4 ?qa4 ?late4 ?fin4
   case step4 => as_aux_lemma =>
    rintro i hi h1 h2 h3 x v gv hd K hK
    have hi8 : i = 0 ∨ i = 1 ∨ i = 2 ∨ i = 3 ∨ i = 4 ∨ i = 5 := by
     simp only [List.mem_cons, List.not_mem_nil, or_false, not_or] at h3
     omega
    rcases hi8 with rfl | rfl | rfl | rfl | rfl | rfl
    ·dsimp only [upd, Nat.reduceBEq, cond_true, cond_false]
     refine wpOp_step rfl (fun K' hK' => ?_)
     rw [if_pos (by rfl)]
     refine wp_load_mid 24 _ rfl v5 0 (by rfl) [.int .i64 30, .slice (some ⟨P, 0, none⟩) 4 4, .int .i64 hei, .slice (some ⟨T, 0, none⟩) 2 tc, .slice ba 2 bc, .int .i64 9, .bool o] _ (fun j u hu => by rw [Nat.zero_add]; exact (oL.keep gv).2 j u hu) Try.underlying24 rfl (by kernel_rfl) ?_
     exact hK' _ _ (hK _ _ (Below.refl _ _) (at_of rfl (rfl)))
    ·obtain ⟨x, rfl⟩ := upd_of (show x 0 = .agg #[.int .i64 30, .slice (some ⟨P, 0, none⟩) 4 4, .int .i64 hei, .slice (some ⟨T, 0, none⟩) 2 tc, .slice ba 2 bc, .int .i64 9, .bool o] from hd 0 _ (by simp) (by decide) (by decide) rfl)
     dsimp only [upd, Nat.reduceBEq, cond_true, cond_false]
     refine wpOp_step rfl (fun K' hK' => ?_)
     go_simp
     refine (own4_any a0 a1 a0 a1 t0 t1 s0 s1 hei o _ _ _ _ _ _ v (r2.grow gv) (r3.grow gv) (r4.grow gv)).mono ?_
     rintro e v' ⟨w3, b3, w7, b7, w11, b11, rfl, hg, r1, r2, r3⟩
     exact hK' _ _ (hK _ _ hg (at_of rfl (⟨_, _, _, _, _, _, rfl, r1, r2, r3⟩)))
    ·dsimp only [upd, Nat.reduceBEq, cond_true, cond_false]
     refine wpOp_step rfl (fun K' hK' => ?_)
     rw [if_pos (by rfl)]
     refine wp_load_mid 48 _ rfl D 0 (by rfl) [.int .i64 W.ll, .int .i64 W.lh, .int .i64 W.wl, .int .i64 W.wh, .int .i64 W.hl, .int .i64 W.hh, .int .i64 W.ol, .int .i64 W.oh, .int .i64 W.il, .int .i64 W.ih, .bool W.wo] _ (fun j u hu => by rw [Nat.zero_add]; exact (oW.keep gv).2 j u hu) Try.underlying48 rfl (by kernel_rfl) ?_
     exact hK' _ _ (hK _ _ (Below.refl _ _) (at_of rfl (rfl)))
    ·obtain ⟨naa3, nac3, naa7, nac7, naa11, nac11, e1, r1⟩ := hd 1 _ (by simp) (by decide) (by decide) rfl
     obtain ⟨x, rfl⟩ := upd_of (show x 1 = .agg #[.int .i64 30, .slice naa3 4 nac3, .int .i64 hei, .slice naa7 2 nac7, .slice naa11 2 nac11, .int .i64 9, .bool o] from e1)
     obtain ⟨x, rfl⟩ := upd_of (show x 2 = .agg #[.int .i64 W.ll, .int .i64 W.lh, .int .i64 W.wl, .int .i64 W.wh, .int .i64 W.hl, .int .i64 W.hh, .int .i64 W.ol, .int .i64 W.oh, .int .i64 W.il, .int .i64 W.ih, .bool W.wo] from hd 2 _ (by simp) (by decide) (by decide) rfl)
     dsimp only [upd, Nat.reduceBEq, cond_true, cond_false]
     refine wpOp_step rfl (fun K' hK' => ?_)
     go_simp
     refine (CA.out _ _ _ _ _ _ v r1.1 r1.2.1 r1.2.2).mono ?_
     rintro e v' ⟨rfl, hg⟩
     exact hK' _ _ (hK _ _ hg (at_of rfl (rfl)))
    ·obtain ⟨x, rfl⟩ := upd_of (show x 3 = .tuple #[.agg #[.int .i64 cm, .int .i64 cx], .int .i64 0] from hd 3 _ (by simp) (by decide) (by decide) rfl)
     dsimp only [upd, Nat.reduceBEq, cond_true, cond_false]
     refine wpOp_step rfl (fun K' hK' => ?_)
     go_simp
     exact hK' _ _ (hK _ _ (Below.refl _ _) (at_of rfl (rfl)))
    ·obtain ⟨x, rfl⟩ := upd_of (show x 4 = .tuple #[.agg #[.int .i64 cm, .int .i64 cx], .int .i64 0] from hd 4 _ (by simp) (by decide) (by decide) rfl)
     dsimp only [upd, Nat.reduceBEq, cond_true, cond_false]
     refine wpOp_step rfl (fun K' hK' => ?_)
     go_simp
     exact hK' _ _ (hK _ _ (Below.refl _ _) (at_of rfl (rfl)))
   case pa4 => as_aux_lemma =>
    rintro x v gv K hK
    show wpOp Try.prog _ _ 7 K (⟨#[_, _, _, _, _, _, _, _, _, _, _, _, x 7, _, _, _, _, _, _, _, _, _, _, _, _, _, _, _, _, _, _, _, _, _, _, _, _, _, _, _, _, x 4, x 0, x 1, x 2, x 3, x 5, x 6, _, _, _, _, _, _, _, _, _, _, _, _, _, _, _, _, _, _, _, _, _, _, _, _, _, _, _, _, _, _, _, _, _, _, _, _, _, _, _, _, _, _, _, _, _, _, _, _, _, _, _, _, _, _, _, _, _, _, _, _, _, _, _, _, _, _, _, _, _, _, _, _, _, _, _, _, _, _, _, _, _, _, _, _, _, _, _, _, _, _, _, _, _, _, _, _, _, _, _, _, _, _, _, _, _, _, _, _, _, _, _, _, _, _, _, _, _, _, _, _, _, _, _, _, _, _, _, _, _, _, _, _, _, _, _, _, _, _, _, _, _, _, _, _, _, _, _, _, _, _, _, _, _, _, _, _, _, _, _, _, _, _, _, _, _, _, _, _, _, _, _, _, _, _, _, _, _, _, _, _, _, _, _, _, _, _, _, _, _, _, _, _, _, _, _, _, _], []⟩ : Act) v
    refine wpOp_step rfl (fun K' hK' => ?_)
    go_simp
    exact hK' _ _ hK
   case qa4 => as_aux_lemma =>
    rintro x v bb gv hbb e ho hd K hK
    obtain ⟨x, rfl⟩ := upd_of (show x 5 = .agg #[.int .i64 cm, .int .i64 cx] from hd 5 _ (by simp) (by decide) rfl)
    obtain ⟨x, rfl⟩ := upd_of (show x 7 = .pointer (some ⟨bb, 0, none⟩) from by simpa [upd] using e)
    show wpOp Try.prog _ _ 8 K (⟨#[_, _, _, _, _, _, _, _, _, _, _, _, .pointer (some ⟨bb, 0, none⟩), _, _, _, _, _, _, _, _, _, _, _, _, _, _, _, _, _, _, _, _, _, _, _, _, _, _, _, _, x 4, x 0, x 1, x 2, x 3, .agg #[.int .i64 cm, .int .i64 cx], x 6, _, _, _, _, _, _, _, _, _, _, _, _, _, _, _, _, _, _, _, _, _, _, _, _, _, _, _, _, _, _, _, _, _, _, _, _, _, _, _, _, _, _, _, _, _, _, _, _, _, _, _, _, _, _, _, _, _, _, _, _, _, _, _, _, _, _, _, _, _, _, _, _, _, _, _, _, _, _, _, _, _, _, _, _, _, _, _, _, _, _, _, _, _, _, _, _, _, _, _, _, _, _, _, _, _, _, _, _, _, _, _, _, _, _, _, _, _, _, _, _, _, _, _, _, _, _, _, _, _, _, _, _, _, _, _, _, _, _, _, _, _, _, _, _, _, _, _, _, _, _, _, _, _, _, _, _, _, _, _, _, _, _, _, _, _, _, _, _, _, _, _, _, _, _, _, _, _, _, _, _, _, _, _, _, _, _, _, _, _, _, _, _, _, _, _, _, _], []⟩ : Act) v
    have t0_ := ho.1.2 0 _ rfl
    have f0_ := ho.2 0
    have t1_ := ho.1.2 1 _ rfl
    have f1_ := ho.2 1
    refine wpOp_step rfl (fun K' hK' => ?_)
    go_simp
    exact hK' _ _ (hK _ ((gv.setCell (p := ⟨bb, 0, none⟩) hbb _).setCell (p := ⟨bb, 1, none⟩) hbb _) ((ho.set (i := 0) (by simp)).set (i := 1) (by simp)))
   case late4 => as_aux_lemma =>
    rintro i hi hm x v gv hd K hK
    simp only [List.mem_cons, List.not_mem_nil, or_false] at hm
    rcases hm with rfl
    ·obtain ⟨x, rfl⟩ := upd_of (show x 4 = .tuple #[.agg #[.int .i64 cm, .int .i64 cx], .int .i64 0] from late_of (hd 4 _ (by simp) (by decide) (by decide) rfl) (fun _ h => h))
     show wpOp Try.prog _ _ 6 K (⟨#[_, _, _, _, _, _, _, _, _, _, _, _, x 7, _, _, _, _, _, _, _, _, _, _, _, _, _, _, _, _, _, _, _, _, _, _, _, _, _, _, _, _, .tuple #[.agg #[.int .i64 cm, .int .i64 cx], .int .i64 0], x 0, x 1, x 2, x 3, x 5, x 6, _, _, _, _, _, _, _, _, _, _, _, _, _, _, _, _, _, _, _, _, _, _, _, _, _, _, _, _, _, _, _, _, _, _, _, _, _, _, _, _, _, _, _, _, _, _, _, _, _, _, _, _, _, _, _, _, _, _, _, _, _, _, _, _, _, _, _, _, _, _, _, _, _, _, _, _, _, _, _, _, _, _, _, _, _, _, _, _, _, _, _, _, _, _, _, _, _, _, _, _, _, _, _, _, _, _, _, _, _, _, _, _, _, _, _, _, _, _, _, _, _, _, _, _, _, _, _, _, _, _, _, _, _, _, _, _, _, _, _, _, _, _, _, _, _, _, _, _, _, _, _, _, _, _, _, _, _, _, _, _, _, _, _, _, _, _, _, _, _, _, _, _, _, _, _, _, _, _, _, _, _, _, _, _, _, _, _, _, _, _, _, _, _, _, _, _, _], []⟩ : Act) v
     refine wpOp_step rfl (fun K' hK' => ?_)
     go_simp
     exact hK' _ _ (hK _ (fun F hF v0 => at_of (v := v0) rfl (rfl) F hF))
   case fin4 =>
    rintro x v v7 gv l_v7 e ho_v7 hd
    obtain ⟨x, rfl⟩ := upd_of (show x 6 = .int .i64 0 from late_of (hd 6 _ (by omega) (by decide) (by decide) rfl) (fun _ h => h))
    obtain ⟨x, rfl⟩ := upd_of (show x 7 = .pointer (some ⟨v7, 0, none⟩) from by simpa [upd] using e)
    clear hd e
    show wpList Try.prog _ _ (List.drop 9 _) (⟨#[_, _, _, _, _, _, _, _, _, _, _, _, .pointer (some ⟨v7, 0, none⟩), _, _, _, _, _, _, _, _, _, _, _, _, _, _, _, _, _, _, _, _, _, _, _, _, _, _, _, _, x 4, x 0, x 1, x 2, x 3, x 5, .int .i64 0, _, _, _, _, _, _, _, _, _, _, _, _, _, _, _, _, _, _, _, _, _, _, _, _, _, _, _, _, _, _, _, _, _, _, _, _, _, _, _, _, _, _, _, _, _, _, _, _, _, _, _, _, _, _, _, _, _, _, _, _, _, _, _, _, _, _, _, _, _, _, _, _, _, _, _, _, _, _, _, _, _, _, _, _, _, _, _, _, _, _, _, _, _, _, _, _, _, _, _, _, _, _, _, _, _, _, _, _, _, _, _, _, _, _, _, _, _, _, _, _, _, _, _, _, _, _, _, _, _, _, _, _, _, _, _, _, _, _, _, _, _, _, _, _, _, _, _, _, _, _, _, _, _, _, _, _, _, _, _, _, _, _, _, _, _, _, _, _, _, _, _, _, _, _, _, _, _, _, _, _, _, _, _, _, _, _, _, _, _, _, _, _, _, _, _, _, _], []⟩ : Act) v
    simp only [List.drop_succ_cons, List.drop_zero]
    replace gU := gU.tr gv
    replace oL := oL.keep gv
    replace oA := oA.keep gv
    replace r2 := r2.grow gv
    replace r3 := r3.grow gv
    replace r4 := r4.grow gv
    replace oW := oW.keep gv
    have oS := ho_v7.1
    clear gv ho_v7 l_v7 CA
    go_upto_region 5 with fail
    refine wp_abs (fun Q => Gr v Q) (Below.refl _ _) ?_
    rintro V2 gV
    replace gU := gU.tr gV
    replace oL := oL.keep gV
    replace oA := oA.keep gV
    replace r2 := r2.grow gV
    replace r3 := r3.grow gV
    replace r4 := r4.grow gV
    replace oW := oW.keep gV
    replace oS := oS.keep gV
    clear gV
    refine (show (∀ sc : Nat → Value, Code.wp Try.prog _ _ ⟨#[sc 0, .int .u8 wh, .int .u8 by0, sc 3, sc 4, sc 5, .bool false, .pointer (some ⟨v5, 0, none⟩), .pointer (some ⟨v6, 0, none⟩), .pointer (some ⟨D, 0, none⟩), .slice sl8 0 cp8, .int .i64 0, .pointer (some ⟨v7, 0, none⟩), .int .i64 0, undef, undef, undef, undef, undef, undef, undef, undef, undef, undef, sc 24, sc 25, sc 26, sc 27, sc 28, sc 29, sc 30, sc 31, sc 32, sc 33, sc 34, sc 35, sc 36, sc 37, sc 38, sc 39, sc 40, sc 41, sc 42, sc 43, sc 44, sc 45, sc 46, sc 47, undef, undef, undef, undef, undef, undef, undef, undef, undef, undef, undef, undef, undef, undef, undef, undef, undef, undef, undef, undef, undef, undef, undef, undef, undef, undef, undef, undef, undef, undef, undef, undef, undef, undef, undef, undef, undef, undef, undef, undef, undef, undef, undef, undef, undef, undef, undef, undef, undef, undef, undef, undef, undef, undef, undef, undef, undef, undef, undef, undef, undef, undef, undef, undef, undef, undef, undef, undef, undef, undef, undef, undef, undef, undef, undef, undef, undef, undef, undef, undef, undef, undef, undef, undef, undef, undef, undef, undef, undef, undef, undef, undef, undef, undef, undef, undef, undef, undef, undef, undef, undef, undef, undef, undef, undef, undef, undef, undef, undef, undef, undef, undef, undef, undef, undef, undef, undef, undef, undef, undef, undef, undef, undef, undef, undef, undef, undef, undef, undef, undef, undef, undef, undef, undef, undef, undef, undef, undef, undef, undef, undef, undef, undef, undef, undef, undef, undef, undef, undef, undef, undef, undef, undef, undef, undef, undef, undef, undef, undef, undef, undef, undef, undef, undef, undef, undef, undef, undef, undef, undef, undef, undef, undef, undef, undef, undef, undef, undef, undef, undef, undef, undef, undef, undef, undef, undef, undef, undef, undef, undef, undef, undef, undef, undef, undef, undef, undef], []⟩ _) → _ from fun h => h ((fun l : List Value => fun i => l.getD i undef) [_, undef, undef, _, _, _, undef, undef, undef, undef, undef, undef, undef, undef, undef, undef, undef, undef, undef, undef, undef, undef, undef, undef, _, _, _, _, _, _, _, _, _, _, _, _, _, _, _, _, _, _, _, _, _, _, _, _])) ?_
    intro sc
    dsimp only
    refine wp_region_facts 8 [(1, 0), (3, 1), (3, 2), (4, 3), (5, 4), (6, 4), (7, 5)] (fun x => ⟨#[sc 0, .int .u8 wh, .int .u8 by0, sc 3, sc 4, sc 5, .bool false, .pointer (some ⟨v5, 0, none⟩), .pointer (some ⟨v6, 0, none⟩), .pointer (some ⟨D, 0, none⟩), .slice sl8 0 cp8, .int .i64 0, .pointer (some ⟨v7, 0, none⟩), .int .i64 0, x 7, undef, undef, undef, undef, undef, undef, undef, undef, undef, sc 24, sc 25, sc 26, sc 27, sc 28, sc 29, sc 30, sc 31, sc 32, sc 33, sc 34, sc 35, sc 36, sc 37, sc 38, sc 39, sc 40, sc 41, sc 42, sc 43, sc 44, sc 45, sc 46, sc 47, x 4, x 0, x 1, x 2, x 3, x 5, x 6, undef, undef, undef, undef, undef, undef, undef, undef, undef, undef, undef, undef, undef, undef, undef, undef, undef, undef, undef, undef, undef, undef, undef, undef, undef, undef, undef, undef, undef, undef, undef, undef, undef, undef, undef, undef, undef, undef, undef, undef, undef, undef, undef, undef, undef, undef, undef, undef, undef, undef, undef, undef, undef, undef, undef, undef, undef, undef, undef, undef, undef, undef, undef, undef, undef, undef, undef, undef, undef, undef, undef, undef, undef, undef, undef, undef, undef, undef, undef, undef, undef, undef, undef, undef, undef, undef, undef, undef, undef, undef, undef, undef, undef, undef, undef, undef, undef, undef, undef, undef, undef, undef, undef, undef, undef, undef, undef, undef, undef, undef, undef, undef, undef, undef, undef, undef, undef, undef, undef, undef, undef, undef, undef, undef, undef, undef, undef, undef, undef, undef, undef, undef, undef, undef, undef, undef, undef, undef, undef, undef, undef, undef, undef, undef, undef, undef, undef, undef, undef, undef, undef, undef, undef, undef, undef, undef, undef, undef, undef, undef, undef, undef, undef, undef, undef, undef, undef, undef, undef, undef, undef, undef, undef, undef, undef, undef, undef, undef, undef, undef, undef, undef, undef, undef, undef, undef, undef, undef, undef, undef], []⟩) (fun _ => undef) [fun _ x => x = .agg #[.int .i64 30, .slice (some ⟨P, 0, none⟩) 4 4, .int .i64 hei, .slice (some ⟨T, 0, none⟩) 2 tc, .slice ba 2 bc, .int .i64 9, .bool o], fun v x => ∃ naa3 nac3 naa7 nac7 naa11 nac11, x = .agg #[.int .i64 30, .slice naa3 4 nac3, .int .i64 hei, .slice naa7 2 nac7, .slice naa11 2 nac11, .int .i64 9, .bool o] ∧ (IRow v naa3 [a0, a1, a0, a1] ∧ IRow v naa7 [t0, t1] ∧ IRow v naa11 [s0, s1]), fun _ x => x = .agg #[.int .i64 cl, .int .i64 ch], fun v x => ∃ ib3 if3 ic3, x = .tuple #[.slice (some ⟨ib3, if3, none⟩) 9 ic3, .int .i64 0] ∧ SRow v (some ⟨ib3, if3, none⟩) (inN a0 a1 a0 a1 t0 t1 s0 s1 hei o cl ch), fun v x => ∃ ib4 if4 ic4, x = .tuple #[.slice (some ⟨ib4, if4, none⟩) 9 ic4, .int .i64 0] ∧ SRow v (some ⟨ib4, if4, none⟩) (inN a0 a1 a0 a1 t0 t1 s0 s1 hei o cl ch), fun v x => ∃ ib5 if5 ic5, x = .slice (some ⟨ib5, if5, none⟩) 9 ic5 ∧ SRow v (some ⟨ib5, if5, none⟩) (inN a0 a1 a0 a1 t0 t1 s0 s1 hei o cl ch), fun _ x => x = .int .i64 0, fun v x => ∃ ib7 if7 ic7, x = .slice (some ⟨ib7, if7, none⟩) 9 ic7 ∧ SRow v (some ⟨ib7, if7, none⟩) (inN a0 a1 a0 a1 t0 t1 s0 s1 hei o cl ch)] (by rfl) (by kernel_rfl) (by kernel_rfl) (by kernel_rfl) (stays_cons (Stays.eq _) (stays_cons ((show Stays (fun v x => ∃ naa3 nac3 naa7 nac7 naa11 nac11, x = .agg #[.int .i64 30, .slice naa3 4 nac3, .int .i64 hei, .slice naa7 2 nac7, .slice naa11 2 nac11, .int .i64 9, .bool o] ∧ (IRow v naa3 [a0, a1, a0, a1] ∧ IRow v naa7 [t0, t1] ∧ IRow v naa11 [s0, s1])) from fun v v' x g ⟨a, b, c, d, e, f, h, r1, r2, r3⟩ => ⟨a, b, c, d, e, f, h, r1.grow g, r2.grow g, r3.grow g⟩)) (stays_cons (Stays.eq _) (stays_cons ((show Stays (fun v x => ∃ ib3 if3 ic3, x = .tuple #[.slice (some ⟨ib3, if3, none⟩) 9 ic3, .int .i64 0] ∧ SRow v (some ⟨ib3, if3, none⟩) (inN a0 a1 a0 a1 t0 t1 s0 s1 hei o cl ch)) from fun v v' x g ⟨a, b, c, h, r⟩ => ⟨a, b, c, h, r.grow g⟩)) (stays_cons ((show Stays (fun v x => ∃ ib4 if4 ic4, x = .tuple #[.slice (some ⟨ib4, if4, none⟩) 9 ic4, .int .i64 0] ∧ SRow v (some ⟨ib4, if4, none⟩) (inN a0 a1 a0 a1 t0 t1 s0 s1 hei o cl ch)) from fun v v' x g ⟨a, b, c, h, r⟩ => ⟨a, b, c, h, r.grow g⟩)) (stays_cons ((show Stays (fun v x => ∃ ib5 if5 ic5, x = .slice (some ⟨ib5, if5, none⟩) 9 ic5 ∧ SRow v (some ⟨ib5, if5, none⟩) (inN a0 a1 a0 a1 t0 t1 s0 s1 hei o cl ch)) from fun v v' x g ⟨a, b, c, h, r⟩ => ⟨a, b, c, h, r.grow g⟩)) (stays_cons (Stays.eq _) (stays_cons ((show Stays (fun v x => ∃ ib7 if7 ic7, x = .slice (some ⟨ib7, if7, none⟩) 9 ic7 ∧ SRow v (some ⟨ib7, if7, none⟩) (inN a0 a1 a0 a1 t0 t1 s0 s1 hei o cl ch)) from fun v v' x g ⟨a, b, c, h, r⟩ => ⟨a, b, c, h, r.grow g⟩)) stays_nil)))))))) ?step5 ?fin5
    case step5 => as_aux_lemma =>
     rintro i hi x v gv hd K hK
     have hi8 : i = 0 ∨ i = 1 ∨ i = 2 ∨ i = 3 ∨ i = 4 ∨ i = 5 ∨ i = 6 ∨ i = 7 := by omega
     rcases hi8 with rfl | rfl | rfl | rfl | rfl | rfl | rfl | rfl
     ·dsimp only [upd, Nat.reduceBEq, cond_true, cond_false]
      refine wpOp_step rfl (fun K' hK' => ?_)
      rw [if_pos (by rfl)]
      refine wp_load_mid 24 _ rfl v5 0 (by rfl) [.int .i64 30, .slice (some ⟨P, 0, none⟩) 4 4, .int .i64 hei, .slice (some ⟨T, 0, none⟩) 2 tc, .slice ba 2 bc, .int .i64 9, .bool o] _ (fun j u hu => by rw [Nat.zero_add]; exact (oL.keep gv).2 j u hu) Try.underlying24 rfl (by kernel_rfl) ?_
      exact hK' _ _ (hK _ _ (Below.refl _ _) (at_of rfl (rfl)))
     ·obtain ⟨x, rfl⟩ := upd_of (show x 0 = .agg #[.int .i64 30, .slice (some ⟨P, 0, none⟩) 4 4, .int .i64 hei, .slice (some ⟨T, 0, none⟩) 2 tc, .slice ba 2 bc, .int .i64 9, .bool o] from hd 0 _ (by simp) rfl)
      dsimp only [upd, Nat.reduceBEq, cond_true, cond_false]
      refine wpOp_step rfl (fun K' hK' => ?_)
      go_simp
      refine (own4_any a0 a1 a0 a1 t0 t1 s0 s1 hei o _ _ _ _ _ _ v (r2.grow gv) (r3.grow gv) (r4.grow gv)).mono ?_
      rintro e v' ⟨w3, b3, w7, b7, w11, b11, rfl, hg, r1, r2, r3⟩
      exact hK' _ _ (hK _ _ hg (at_of rfl (⟨_, _, _, _, _, _, rfl, r1, r2, r3⟩)))
     ·dsimp only [upd, Nat.reduceBEq, cond_true, cond_false]
      refine wpOp_step rfl (fun K' hK' => ?_)
      rw [if_pos (by rfl)]
      refine wp_load_mid 37 _ rfl v6 0 (by rfl) [.int .i64 cl, .int .i64 ch] _ (fun j u hu => by rw [Nat.zero_add]; exact (oA.keep gv).2 j u hu) Try.underlying37 rfl (by kernel_rfl) ?_
      exact hK' _ _ (hK _ _ (Below.refl _ _) (at_of rfl (rfl)))
     ·obtain ⟨naa3, nac3, naa7, nac7, naa11, nac11, e1, r1⟩ := hd 1 _ (by simp) rfl
      obtain ⟨x, rfl⟩ := upd_of (show x 1 = .agg #[.int .i64 30, .slice naa3 4 nac3, .int .i64 hei, .slice naa7 2 nac7, .slice naa11 2 nac11, .int .i64 9, .bool o] from e1)
      obtain ⟨x, rfl⟩ := upd_of (show x 2 = .agg #[.int .i64 cl, .int .i64 ch] from hd 2 _ (by simp) rfl)
      dsimp only [upd, Nat.reduceBEq, cond_true, cond_false]
      refine wpOp_step rfl (fun K' hK' => ?_)
      go_simp
      refine (IN.out _ _ _ _ _ _ v r1.1 r1.2.1 r1.2.2).mono ?_
      rintro e v' ⟨b9, f9, c9, rfl, hg, r⟩
      exact hK' _ _ (hK _ _ hg (at_of rfl (⟨_, _, _, rfl, r⟩)))
     ·obtain ⟨ib3, if3, ic3, e3, r3⟩ := hd 3 _ (by simp) rfl
      obtain ⟨x, rfl⟩ := upd_of (show x 3 = .tuple #[.slice (some ⟨ib3, if3, none⟩) 9 ic3, .int .i64 0] from e3)
      dsimp only [upd, Nat.reduceBEq, cond_true, cond_false]
      refine wpOp_step rfl (fun K' hK' => ?_)
      go_simp
      exact hK' _ _ (hK _ _ (Below.refl _ _) (at_of rfl (⟨_, _, _, rfl, r3⟩)))
     ·obtain ⟨ib4, if4, ic4, e4, r4⟩ := hd 4 _ (by simp) rfl
      obtain ⟨x, rfl⟩ := upd_of (show x 4 = .tuple #[.slice (some ⟨ib4, if4, none⟩) 9 ic4, .int .i64 0] from e4)
      dsimp only [upd, Nat.reduceBEq, cond_true, cond_false]
      refine wpOp_step rfl (fun K' hK' => ?_)
      go_simp
      exact hK' _ _ (hK _ _ (Below.refl _ _) (at_of rfl (⟨_, _, _, rfl, r4⟩)))
     ·obtain ⟨ib4, if4, ic4, e4, r4⟩ := hd 4 _ (by simp) rfl
      obtain ⟨x, rfl⟩ := upd_of (show x 4 = .tuple #[.slice (some ⟨ib4, if4, none⟩) 9 ic4, .int .i64 0] from e4)
      dsimp only [upd, Nat.reduceBEq, cond_true, cond_false]
      refine wpOp_step rfl (fun K' hK' => ?_)
      go_simp
      exact hK' _ _ (hK _ _ (Below.refl _ _) (at_of rfl (rfl)))
     ·obtain ⟨ib5, if5, ic5, e5, r5⟩ := hd 5 _ (by simp) rfl
      obtain ⟨x, rfl⟩ := upd_of (show x 5 = .slice (some ⟨ib5, if5, none⟩) 9 ic5 from e5)
      dsimp only [upd, Nat.reduceBEq, cond_true, cond_false]
      refine wpOp_step rfl (fun K' hK' => ?_)
      go_simp
      exact hK' _ _ (hK _ _ (Below.refl _ _) (at_of rfl (⟨_, _, _, rfl, r5⟩)))
    case fin5 =>
     rintro x v gv hd
     obtain ⟨x, rfl⟩ := upd_of (show x 6 = .int .i64 0 from hd 6 _ (by omega) rfl)
     obtain ⟨ib7, if7, ic7, e7, r7⟩ := hd 7 _ (by omega) rfl
     obtain ⟨x, rfl⟩ := upd_of (show x 7 = .slice (some ⟨ib7, if7, none⟩) 9 ic7 from e7)
     clear hd
     show wpList Try.prog _ _ (List.drop 8 _) (⟨#[_, _, _, _, _, _, _, _, _, _, _, _, _, _, .slice (some ⟨ib7, if7, none⟩) 9 ic7, _, _, _, _, _, _, _, _, _, _, _, _, _, _, _, _, _, _, _, _, _, _, _, _, _, _, _, _, _, _, _, _, _, x 4, x 0, x 1, x 2, x 3, x 5, .int .i64 0, _, _, _, _, _, _, _, _, _, _, _, _, _, _, _, _, _, _, _, _, _, _, _, _, _, _, _, _, _, _, _, _, _, _, _, _, _, _, _, _, _, _, _, _, _, _, _, _, _, _, _, _, _, _, _, _, _, _, _, _, _, _, _, _, _, _, _, _, _, _, _, _, _, _, _, _, _, _, _, _, _, _, _, _, _, _, _, _, _, _, _, _, _, _, _, _, _, _, _, _, _, _, _, _, _, _, _, _, _, _, _, _, _, _, _, _, _, _, _, _, _, _, _, _, _, _, _, _, _, _, _, _, _, _, _, _, _, _, _, _, _, _, _, _, _, _, _, _, _, _, _, _, _, _, _, _, _, _, _, _, _, _, _, _, _, _, _, _, _, _, _, _, _, _, _, _, _, _, _, _, _, _, _, _, _, _, _, _, _, _], []⟩ : Act) v
     simp only [List.drop_succ_cons, List.drop_zero]
     replace gU := gU.tr gv
     replace oL := oL.keep gv
     replace oA := oA.keep gv
     replace r2 := r2.grow gv
     replace r3 := r3.grow gv
     replace r4 := r4.grow gv
     replace oW := oW.keep gv
     replace oS := oS.keep gv
     clear gv e7
     have rI := r7
     clear r7
     obtain ⟨⟨lh0, lh1⟩, lh2, lh3⟩ := LH.out
     have g1 : ¬ cm > cl := by omega
     have g2 : ¬ cx < ch := by omega
     have g3 : ¬ cm < 1 := by omega
     have g4 : ¬ cx > 10000 := by omega
     obtain ⟨c0_, c1_⟩ := oA.c2
     obtain ⟨c2_, c3_⟩ := oS.c2
     go_upto_region 9 with fail
     clear g1 g2 g3 g4 c0_ c1_ c2_ c3_ lh0 lh1 lh2 lh3 oS
     refine wp_abs (fun Q => Gr v Q) (Below.refl _ _) ?_
     rintro wk gK
     replace gU := gU.tr gK
     replace oL := oL.keep gK
     replace oA := oA.keep gK
     replace r2 := r2.grow gK
     replace r3 := r3.grow gK
     replace r4 := r4.grow gK
     replace oW := oW.keep gK
     replace rI := rI.grow gK
     clear gK
     have bk := HK.out
     unfold Cal4 at bk
     obtain ⟨bk0, bk1, bk2⟩ := bk
     obtain ⟨mid, hmid⟩ : ∃ z, (cl + ch) / 2 = z := ⟨_, rfl⟩
     have bm : cl ≤ mid ∧ mid ≤ ch := by omega
     obtain ⟨bm0, bm1⟩ := bm
     have wq : (cl + ch).tdiv 2 = mid := by rw [Int.tdiv_eq_ediv_of_nonneg (by omega)]; exact hmid
     have ws : IntKind.i64.wrap (cl + ch) = cl + ch := IntWalk.i64_in _ (by omega)
     have wm : IntKind.i64.wrap mid = mid := IntWalk.i64_in _ (by omega)
     clear hmid
     refine (show (∀ se : Nat → Value, Code.wp Try.prog _ _ ⟨#[se 0, .int .u8 wh, .int .u8 by0, se 3, se 4, se 5, .bool false, .pointer (some ⟨v5, 0, none⟩), .pointer (some ⟨v6, 0, none⟩), .pointer (some ⟨D, 0, none⟩), .slice sl8 0 cp8, .int .i64 0, .pointer (some ⟨v7, 0, none⟩), .int .i64 0, .slice (some ⟨ib7, if7, none⟩) 9 ic7, .int .i64 0, .int .i64 0, undef, undef, undef, undef, undef, undef, undef, se 24, se 25, se 26, se 27, se 28, se 29, se 30, se 31, se 32, se 33, se 34, se 35, se 36, se 37, se 38, se 39, se 40, se 41, se 42, se 43, se 44, se 45, se 46, se 47, se 48, se 49, se 50, se 51, se 52, se 53, se 54, se 55, se 56, se 57, se 58, se 59, se 60, se 61, se 62, se 63, se 64, se 65, se 66, se 67, se 68, se 69, se 70, se 71, se 72, se 73, se 74, se 75, se 76, se 77, se 78, se 79, se 80, se 81, se 82, se 83, se 84, se 85, se 86, se 87, se 88, se 89, se 90, se 91, se 92, se 93, se 94, se 95, se 96, se 97, se 98, undef, undef, undef, undef, undef, undef, undef, undef, undef, undef, undef, undef, undef, undef, undef, undef, undef, undef, undef, undef, undef, undef, undef, undef, undef, undef, undef, undef, undef, undef, undef, undef, undef, undef, undef, undef, undef, undef, undef, undef, undef, undef, undef, undef, undef, undef, undef, undef, undef, undef, undef, undef, undef, undef, undef, undef, undef, undef, undef, undef, undef, undef, undef, undef, undef, undef, undef, undef, undef, undef, undef, undef, undef, undef, undef, undef, undef, undef, undef, undef, undef, undef, undef, undef, undef, undef, undef, undef, undef, undef, undef, undef, undef, undef, undef, undef, undef, undef, undef, undef, undef, undef, undef, undef, undef, undef, undef, undef, undef, undef, undef, undef, undef, undef, undef, undef, undef, undef, undef, undef, undef, undef, undef, undef, undef, undef, undef, undef, undef, undef, undef, undef, undef, undef, undef, undef, undef, undef, undef, undef, undef, undef, undef, undef, undef, undef], []⟩ _) → _ from fun h => h ((fun l : List Value => fun i => l.getD i undef) [_, undef, undef, _, _, _, undef, undef, undef, undef, undef, undef, undef, undef, undef, undef, undef, undef, undef, undef, undef, undef, undef, undef, _, _, _, _, _, _, _, _, _, _, _, _, _, _, _, _, _, _, _, _, _, _, _, _, _, _, _, _, _, _, _, _, _, _, _, _, _, _, _, _, _, _, _, _, _, _, _, _, _, _, _, _, _, _, _, _, _, _, _, _, _, _, _, _, _, _, _, _, _, _, _, _, _, _, _])) ?_
     intro se
     dsimp only
     go_wp2
     go_loopw [16] (fun x wr => Hid (Gr wk wr ∧ (x = .int .i64 0 ∨ x = .int .i64 1 ∨ x = .int .i64 2 ∨ x = .int .i64 3))) (fun x wr => 3 - (intOf x).toNat)
     case atStart => exact Lib.hid ⟨Below.refl _ _, .inl rfl⟩
     case round =>
      obtain ⟨gW, hx⟩ := hrel.out
      clear hrel
      refine wp_abs (fun Z => Gr wk Z) gW ?_
      clear gW
      rintro wz gW
      have gR := gW
      replace gU := gU.tr gR
      replace oL := oL.keep gR
      replace oA := oA.keep gR
      replace r2 := r2.grow gR
      replace r3 := r3.grow gR
      replace r4 := r4.grow gR
      replace oW := oW.keep gR
      replace rI := rI.grow gR
      clear gR
      rcases hx with rfl | rfl | rfl | rfl
      ·go_upto_region 11 with fail
       have MI := Lib.hid (fun pa ta ba pc tc bc v h1 h2 h3 => micros4_any a0 a1 a0 a1 t0 t1 s0 s1 hei o cl HB.out (by omega) (by omega) pa ta ba pc tc bc v h1 h2 h3)
       refine (show (∀ sd0 : Nat → Value, Code.wp Try.prog _ _ ⟨#[se 0, .int .u8 wh, .int .u8 by0, se 3, se 4, se 5, sd0 6, .pointer (some ⟨v5, 0, none⟩), .pointer (some ⟨v6, 0, none⟩), .pointer (some ⟨D, 0, none⟩), .slice sl8 0 cp8, .int .i64 0, .pointer (some ⟨v7, 0, none⟩), .int .i64 0, .slice (some ⟨ib7, if7, none⟩) 9 ic7, .int .i64 0, .int .i64 0, sd0 17, sd0 18, undef, undef, undef, undef, undef, se 24, se 25, se 26, se 27, se 28, se 29, se 30, se 31, se 32, se 33, se 34, se 35, se 36, se 37, se 38, se 39, se 40, se 41, se 42, se 43, se 44, se 45, se 46, se 47, se 48, se 49, se 50, se 51, se 52, se 53, se 54, se 55, se 56, se 57, se 58, se 59, se 60, se 61, se 62, se 63, se 64, se 65, se 66, se 67, se 68, se 69, se 70, se 71, se 72, se 73, se 74, se 75, se 76, se 77, se 78, se 79, se 80, se 81, se 82, se 83, se 84, se 85, se 86, se 87, se 88, se 89, se 90, se 91, se 92, se 93, se 94, se 95, se 96, se 97, se 98, sd0 99, sd0 100, sd0 101, sd0 102, sd0 103, sd0 104, sd0 105, sd0 106, sd0 107, sd0 108, sd0 109, sd0 110, sd0 111, sd0 112, sd0 113, sd0 114, sd0 115, sd0 116, sd0 117, sd0 118, sd0 119, sd0 120, sd0 121, sd0 122, sd0 123, sd0 124, sd0 125, sd0 126, sd0 127, sd0 128, sd0 129, sd0 130, sd0 131, sd0 132, sd0 133, sd0 134, sd0 135, sd0 136, sd0 137, sd0 138, sd0 139, sd0 140, sd0 141, sd0 142, sd0 143, sd0 144, sd0 145, sd0 146, sd0 147, sd0 148, sd0 149, sd0 150, sd0 151, sd0 152, sd0 153, sd0 154, sd0 155, sd0 156, sd0 157, sd0 158, sd0 159, sd0 160, sd0 161, sd0 162, sd0 163, sd0 164, sd0 165, sd0 166, sd0 167, sd0 168, sd0 169, sd0 170, sd0 171, undef, undef, undef, undef, undef, undef, undef, undef, undef, undef, undef, undef, undef, undef, undef, undef, undef, undef, undef, undef, undef, undef, undef, undef, undef, undef, undef, undef, undef, undef, undef, undef, undef, undef, undef, undef, undef, undef, undef, undef, undef, undef, undef, undef, undef, undef, undef, undef, undef, undef, undef, undef, undef, undef, undef, undef, undef, undef, undef, undef, undef, undef, undef, undef, undef, undef, undef, undef, undef, undef, undef, undef, undef], []⟩ _) → _ from fun h => h ((fun l : List Value => fun i => l.getD i undef) [undef, undef, undef, undef, undef, undef, _, undef, undef, undef, undef, undef, undef, undef, undef, undef, undef, _, _, undef, undef, undef, undef, undef, undef, undef, undef, undef, undef, undef, undef, undef, undef, undef, undef, undef, undef, undef, undef, undef, undef, undef, undef, undef, undef, undef, undef, undef, undef, undef, undef, undef, undef, undef, undef, undef, undef, undef, undef, undef, undef, undef, undef, undef, undef, undef, undef, undef, undef, undef, undef, undef, undef, undef, undef, undef, undef, undef, undef, undef, undef, undef, undef, undef, undef, undef, undef, undef, undef, undef, undef, undef, undef, undef, undef, undef, undef, undef, undef, _, _, _, _, _, _, _, _, _, _, _, _, _, _, _, _, _, _, _, _, _, _, _, _, _, _, _, _, _, _, _, _, _, _, _, _, _, _, _, _, _, _, _, _, _, _, _, _, _, _, _, _, _, _, _, _, _, _, _, _, _, _, _, _, _, _, _, _, _, _, _, _, _])) ?_
       intro sd0
       dsimp only
       refine wp_region_facts 16 [(2, 1), (4, 3), (6, 5), (8, 7), (9, 6), (9, 8), (10, 9), (11, 2), (11, 4), (11, 10), (13, 11), (13, 12), (14, 0), (14, 13)] (fun x => ⟨#[se 0, .int .u8 wh, .int .u8 by0, se 3, se 4, se 5, sd0 6, .pointer (some ⟨v5, 0, none⟩), .pointer (some ⟨v6, 0, none⟩), .pointer (some ⟨D, 0, none⟩), .slice sl8 0 cp8, .int .i64 0, .pointer (some ⟨v7, 0, none⟩), .int .i64 0, .slice (some ⟨ib7, if7, none⟩) 9 ic7, .int .i64 0, .int .i64 0, x 15, sd0 18, undef, undef, undef, undef, undef, se 24, se 25, se 26, se 27, se 28, se 29, se 30, se 31, se 32, se 33, se 34, se 35, se 36, se 37, se 38, se 39, se 40, se 41, se 42, se 43, se 44, se 45, se 46, se 47, se 48, se 49, se 50, se 51, se 52, se 53, se 54, se 55, se 56, se 57, se 58, se 59, se 60, se 61, se 62, se 63, se 64, se 65, se 66, se 67, se 68, se 69, se 70, se 71, se 72, se 73, se 74, se 75, se 76, se 77, se 78, se 79, se 80, se 81, se 82, se 83, se 84, se 85, se 86, se 87, se 88, se 89, se 90, se 91, se 92, se 93, se 94, se 95, se 96, se 97, se 98, sd0 99, sd0 100, sd0 101, sd0 102, x 0, x 1, x 2, x 3, x 4, x 5, x 6, x 7, x 8, x 9, x 10, x 11, x 12, x 13, x 14, sd0 118, sd0 119, sd0 120, sd0 121, sd0 122, sd0 123, sd0 124, sd0 125, sd0 126, sd0 127, sd0 128, sd0 129, sd0 130, sd0 131, sd0 132, sd0 133, sd0 134, sd0 135, sd0 136, sd0 137, sd0 138, sd0 139, sd0 140, sd0 141, sd0 142, sd0 143, sd0 144, sd0 145, sd0 146, sd0 147, sd0 148, sd0 149, sd0 150, sd0 151, sd0 152, sd0 153, sd0 154, sd0 155, sd0 156, sd0 157, sd0 158, sd0 159, sd0 160, sd0 161, sd0 162, sd0 163, sd0 164, sd0 165, sd0 166, sd0 167, sd0 168, sd0 169, sd0 170, sd0 171, undef, undef, undef, undef, undef, undef, undef, undef, undef, undef, undef, undef, undef, undef, undef, undef, undef, undef, undef, undef, undef, undef, undef, undef, undef, undef, undef, undef, undef, undef, undef, undef, undef, undef, undef, undef, undef, undef, undef, undef, undef, undef, undef, undef, undef, undef, undef, undef, undef, undef, undef, undef, undef, undef, undef, undef, undef, undef, undef, undef, undef, undef, undef, undef, undef, undef, undef, undef, undef, undef, undef, undef, undef], []⟩) (fun i => [sd0 103, sd0 104, sd0 105, sd0 106, sd0 107, sd0 108, sd0 109, sd0 110, sd0 111, sd0 112, sd0 113, sd0 114, sd0 115, sd0 116, sd0 117, sd0 17].getD i undef) [fun _ x => x = .agg #[.int .i64 30, .slice (some ⟨P, 0, none⟩) 4 4, .int .i64 hei, .slice (some ⟨T, 0, none⟩) 2 tc, .slice ba 2 bc, .int .i64 9, .bool o], fun _ x => x = .pointer (some ⟨v6, 0, none⟩), fun _ x => x = .int .i64 cl, fun _ x => x = .pointer (some ⟨v6, 1, none⟩), fun _ x => x = .int .i64 ch, fun _ x => x = .pointer (some ⟨v6, 0, none⟩), fun _ x => x = .int .i64 cl, fun _ x => x = .pointer (some ⟨v6, 1, none⟩), fun _ x => x = .int .i64 ch, fun _ x => x = .int .i64 (cl + ch), fun _ x => x = .int .i64 mid, fun _ x => x = .agg #[.int .i64 cl, .int .i64 ch, .int .i64 mid], fun _ x => x = .int .i64 0, fun _ x => x = .int .i64 cl, fun _ x => x = .agg #[.int .i64 (micN a0 a1 a0 a1 t0 t1 s0 s1 hei o cl 0), .int .i64 (micN a0 a1 a0 a1 t0 t1 s0 s1 hei o cl 1), .int .i64 (micN a0 a1 a0 a1 t0 t1 s0 s1 hei o cl 2), .int .i64 (micN a0 a1 a0 a1 t0 t1 s0 s1 hei o cl 3), .int .i64 (micN a0 a1 a0 a1 t0 t1 s0 s1 hei o cl 4), .int .i64 (micN a0 a1 a0 a1 t0 t1 s0 s1 hei o cl 5), .int .i64 (micN a0 a1 a0 a1 t0 t1 s0 s1 hei o cl 6), .int .i64 (micN a0 a1 a0 a1 t0 t1 s0 s1 hei o cl 7), .int .i64 (micN a0 a1 a0 a1 t0 t1 s0 s1 hei o cl 8)], fun v x => ∃ b, x = .pointer (some ⟨b, 0, none⟩) ∧ wz.heap.size ≤ b ∧ Own v b [.int .i64 0, .int .i64 0, .int .i64 0, .int .i64 0, .int .i64 0, .int .i64 0, .int .i64 0, .int .i64 0, .int .i64 0]] (by rfl) (by kernel_rfl) (by kernel_rfl) (by kernel_rfl) (stays_cons (Stays.eq _) (stays_cons (Stays.eq _) (stays_cons (Stays.eq _) (stays_cons (Stays.eq _) (stays_cons (Stays.eq _) (stays_cons (Stays.eq _) (stays_cons (Stays.eq _) (stays_cons (Stays.eq _) (stays_cons (Stays.eq _) (stays_cons (Stays.eq _) (stays_cons (Stays.eq _) (stays_cons (Stays.eq _) (stays_cons (Stays.eq _) (stays_cons (Stays.eq _) (stays_cons (Stays.eq _) (stays_cons ((show Stays (fun v x => ∃ b, x = .pointer (some ⟨b, 0, none⟩) ∧ wz.heap.size ≤ b ∧ Own v b [.int .i64 0, .int .i64 0, .int .i64 0, .int .i64 0, .int .i64 0, .int .i64 0, .int .i64 0, .int .i64 0, .int .i64 0]) from fun v v' x g ⟨b, h, l, o⟩ => ⟨b, h, l, o.keep g⟩)) stays_nil)))))))))))))))) ?step11_0 ?fin11_0
       case step11_0 => as_aux_lemma =>
        rintro i hi x v gv hd K hK
        have hi8 : i = 0 ∨ i = 1 ∨ i = 2 ∨ i = 3 ∨ i = 4 ∨ i = 5 ∨ i = 6 ∨ i = 7 ∨ i = 8 ∨ i = 9 ∨ i = 10 ∨ i = 11 ∨ i = 12 ∨ i = 13 ∨ i = 14 ∨ i = 15 := by omega
        rcases hi8 with rfl | rfl | rfl | rfl | rfl | rfl | rfl | rfl | rfl | rfl | rfl | rfl | rfl | rfl | rfl | rfl
        ·dsimp only [upd, Nat.reduceBEq, cond_true, cond_false]
         refine wpOp_step rfl (fun K' hK' => ?_)
         rw [if_pos (by rfl)]
         refine wp_load_mid 24 _ rfl v5 0 (by rfl) [.int .i64 30, .slice (some ⟨P, 0, none⟩) 4 4, .int .i64 hei, .slice (some ⟨T, 0, none⟩) 2 tc, .slice ba 2 bc, .int .i64 9, .bool o] _ (fun j u hu => by rw [Nat.zero_add]; exact (oL.keep gv).2 j u hu) Try.underlying24 rfl (by kernel_rfl) ?_
         exact hK' _ _ (hK _ _ (Below.refl _ _) (at_of rfl (rfl)))
        ·dsimp only [upd, Nat.reduceBEq, cond_true, cond_false]
         refine wpOp_step rfl (fun K' hK' => ?_)
         go_simp
         exact hK' _ _ (hK _ _ (Below.refl _ _) (at_of rfl (rfl)))
        ·obtain ⟨x, rfl⟩ := upd_of (show x 1 = .pointer (some ⟨v6, 0, none⟩) from hd 1 _ (by simp) rfl)
         dsimp only [upd, Nat.reduceBEq, cond_true, cond_false]
         refine wpOp_step rfl (fun K' hK' => ?_)
         have q := (oA.keep gv).2 0 _ rfl
         go_simp
         exact hK' _ _ (hK _ _ (Below.refl _ _) (at_of rfl (rfl)))
        ·dsimp only [upd, Nat.reduceBEq, cond_true, cond_false]
         refine wpOp_step rfl (fun K' hK' => ?_)
         go_simp
         exact hK' _ _ (hK _ _ (Below.refl _ _) (at_of rfl (rfl)))
        ·obtain ⟨x, rfl⟩ := upd_of (show x 3 = .pointer (some ⟨v6, 1, none⟩) from hd 3 _ (by simp) rfl)
         dsimp only [upd, Nat.reduceBEq, cond_true, cond_false]
         refine wpOp_step rfl (fun K' hK' => ?_)
         have q := (oA.keep gv).2 1 _ rfl
         go_simp
         exact hK' _ _ (hK _ _ (Below.refl _ _) (at_of rfl (rfl)))
        ·dsimp only [upd, Nat.reduceBEq, cond_true, cond_false]
         refine wpOp_step rfl (fun K' hK' => ?_)
         go_simp
         exact hK' _ _ (hK _ _ (Below.refl _ _) (at_of rfl (rfl)))
        ·obtain ⟨x, rfl⟩ := upd_of (show x 5 = .pointer (some ⟨v6, 0, none⟩) from hd 5 _ (by simp) rfl)
         dsimp only [upd, Nat.reduceBEq, cond_true, cond_false]
         refine wpOp_step rfl (fun K' hK' => ?_)
         have q := (oA.keep gv).2 0 _ rfl
         go_simp
         exact hK' _ _ (hK _ _ (Below.refl _ _) (at_of rfl (rfl)))
        ·dsimp only [upd, Nat.reduceBEq, cond_true, cond_false]
         refine wpOp_step rfl (fun K' hK' => ?_)
         go_simp
         exact hK' _ _ (hK _ _ (Below.refl _ _) (at_of rfl (rfl)))
        ·obtain ⟨x, rfl⟩ := upd_of (show x 7 = .pointer (some ⟨v6, 1, none⟩) from hd 7 _ (by simp) rfl)
         dsimp only [upd, Nat.reduceBEq, cond_true, cond_false]
         refine wpOp_step rfl (fun K' hK' => ?_)
         have q := (oA.keep gv).2 1 _ rfl
         go_simp
         exact hK' _ _ (hK _ _ (Below.refl _ _) (at_of rfl (rfl)))
        ·obtain ⟨x, rfl⟩ := upd_of (show x 6 = .int .i64 cl from hd 6 _ (by simp) rfl)
         obtain ⟨x, rfl⟩ := upd_of (show x 8 = .int .i64 ch from hd 8 _ (by simp) rfl)
         dsimp only [upd, Nat.reduceBEq, cond_true, cond_false]
         refine wpOp_step rfl (fun K' hK' => ?_)
         go_simp
         exact hK' _ _ (hK _ _ (Below.refl _ _) (at_of rfl (rfl)))
        ·obtain ⟨x, rfl⟩ := upd_of (show x 9 = .int .i64 (cl + ch) from hd 9 _ (by simp) rfl)
         dsimp only [upd, Nat.reduceBEq, cond_true, cond_false]
         refine wpOp_step rfl (fun K' hK' => ?_)
         go_simp
         exact hK' _ _ (hK _ _ (Below.refl _ _) (at_of rfl (rfl)))
        ·obtain ⟨x, rfl⟩ := upd_of (show x 2 = .int .i64 cl from hd 2 _ (by simp) rfl)
         obtain ⟨x, rfl⟩ := upd_of (show x 4 = .int .i64 ch from hd 4 _ (by simp) rfl)
         obtain ⟨x, rfl⟩ := upd_of (show x 10 = .int .i64 mid from hd 10 _ (by simp) rfl)
         dsimp only [upd, Nat.reduceBEq, cond_true, cond_false]
         refine wpOp_step rfl (fun K' hK' => ?_)
         go_simp
         exact hK' _ _ (hK _ _ (Below.refl _ _) (at_of rfl (rfl)))
        ·dsimp only [upd, Nat.reduceBEq, cond_true, cond_false]
         refine wpOp_step rfl (fun K' hK' => ?_)
         go_simp
         exact hK' _ _ (hK _ _ (Below.refl _ _) (at_of rfl (rfl)))
        ·obtain ⟨x, rfl⟩ := upd_of (show x 11 = .agg #[.int .i64 cl, .int .i64 ch, .int .i64 mid] from hd 11 _ (by simp) rfl)
         obtain ⟨x, rfl⟩ := upd_of (show x 12 = .int .i64 0 from hd 12 _ (by simp) rfl)
         dsimp only [upd, Nat.reduceBEq, cond_true, cond_false]
         refine wpOp_step rfl (fun K' hK' => ?_)
         go_simp
         exact hK' _ _ (hK _ _ (Below.refl _ _) (at_of rfl (rfl)))
        ·obtain ⟨x, rfl⟩ := upd_of (show x 0 = .agg #[.int .i64 30, .slice (some ⟨P, 0, none⟩) 4 4, .int .i64 hei, .slice (some ⟨T, 0, none⟩) 2 tc, .slice ba 2 bc, .int .i64 9, .bool o] from hd 0 _ (by simp) rfl)
         obtain ⟨x, rfl⟩ := upd_of (show x 13 = .int .i64 cl from hd 13 _ (by simp) rfl)
         dsimp only [upd, Nat.reduceBEq, cond_true, cond_false]
         refine wpOp_step rfl (fun K' hK' => ?_)
         go_simp
         refine (MI.out _ _ _ _ _ _ v (r2.grow gv) (r3.grow gv) (r4.grow gv)).mono ?_
         rintro e v' ⟨rfl, hg⟩
         exact hK' _ _ (hK _ _ hg (at_of rfl (rfl)))
        ·dsimp only [upd, Nat.reduceBEq, cond_true, cond_false]
         refine wpOp_step rfl (fun K' hK' => ?_)
         go_simp
         have hg := Gr.al v (.cells #[.int .i64 0, .int .i64 0, .int .i64 0, .int .i64 0, .int .i64 0, .int .i64 0, .int .i64 0, .int .i64 0, .int .i64 0] 78)
         exact hK' _ _ (hK _ _ hg (at_of rfl (⟨_, rfl, gv.size, Own.new v [.int .i64 0, .int .i64 0, .int .i64 0, .int .i64 0, .int .i64 0, .int .i64 0, .int .i64 0, .int .i64 0, .int .i64 0] 78 v.heap.size rfl⟩)))
       case fin11_0 =>
        rintro x v gv hd
        obtain ⟨x, rfl⟩ := upd_of (show x 14 = .agg #[.int .i64 (micN a0 a1 a0 a1 t0 t1 s0 s1 hei o cl 0), .int .i64 (micN a0 a1 a0 a1 t0 t1 s0 s1 hei o cl 1), .int .i64 (micN a0 a1 a0 a1 t0 t1 s0 s1 hei o cl 2), .int .i64 (micN a0 a1 a0 a1 t0 t1 s0 s1 hei o cl 3), .int .i64 (micN a0 a1 a0 a1 t0 t1 s0 s1 hei o cl 4), .int .i64 (micN a0 a1 a0 a1 t0 t1 s0 s1 hei o cl 5), .int .i64 (micN a0 a1 a0 a1 t0 t1 s0 s1 hei o cl 6), .int .i64 (micN a0 a1 a0 a1 t0 t1 s0 s1 hei o cl 7), .int .i64 (micN a0 a1 a0 a1 t0 t1 s0 s1 hei o cl 8)] from hd 14 _ (by omega) rfl)
        obtain ⟨v15, e15, l15, o15⟩ := hd 15 _ (by omega) rfl
        obtain ⟨x, rfl⟩ := upd_of (show x 15 = .pointer (some ⟨v15, 0, none⟩) from e15)
        clear hd
        show wpList Try.prog _ _ (List.drop 16 _) (⟨#[_, _, _, _, _, _, _, _, _, _, _, _, _, _, _, _, _, .pointer (some ⟨v15, 0, none⟩), _, _, _, _, _, _, _, _, _, _, _, _, _, _, _, _, _, _, _, _, _, _, _, _, _, _, _, _, _, _, _, _, _, _, _, _, _, _, _, _, _, _, _, _, _, _, _, _, _, _, _, _, _, _, _, _, _, _, _, _, _, _, _, _, _, _, _, _, _, _, _, _, _, _, _, _, _, _, _, _, _, _, _, _, _, x 0, x 1, x 2, x 3, x 4, x 5, x 6, x 7, x 8, x 9, x 10, x 11, x 12, x 13, .agg #[.int .i64 (micN a0 a1 a0 a1 t0 t1 s0 s1 hei o cl 0), .int .i64 (micN a0 a1 a0 a1 t0 t1 s0 s1 hei o cl 1), .int .i64 (micN a0 a1 a0 a1 t0 t1 s0 s1 hei o cl 2), .int .i64 (micN a0 a1 a0 a1 t0 t1 s0 s1 hei o cl 3), .int .i64 (micN a0 a1 a0 a1 t0 t1 s0 s1 hei o cl 4), .int .i64 (micN a0 a1 a0 a1 t0 t1 s0 s1 hei o cl 5), .int .i64 (micN a0 a1 a0 a1 t0 t1 s0 s1 hei o cl 6), .int .i64 (micN a0 a1 a0 a1 t0 t1 s0 s1 hei o cl 7), .int .i64 (micN a0 a1 a0 a1 t0 t1 s0 s1 hei o cl 8)], _, _, _, _, _, _, _, _, _, _, _, _, _, _, _, _, _, _, _, _, _, _, _, _, _, _, _, _, _, _, _, _, _, _, _, _, _, _, _, _, _, _, _, _, _, _, _, _, _, _, _, _, _, _, _, _, _, _, _, _, _, _, _, _, _, _, _, _, _, _, _, _, _, _, _, _, _, _, _, _, _, _, _, _, _, _, _, _, _, _, _, _, _, _, _, _, _, _, _, _, _, _, _, _, _, _, _, _, _, _, _, _, _, _, _, _, _, _, _, _, _, _, _, _, _, _, _], []⟩ : Act) v
        simp only [List.drop_succ_cons, List.drop_zero]
        clear e15 MI
        have s_0 := o15.1.2 0 _ rfl
        have z_0 := o15.2 0
        have s_1 := o15.1.2 1 _ rfl
        have z_1 := o15.2 1
        have s_2 := o15.1.2 2 _ rfl
        have z_2 := o15.2 2
        have s_3 := o15.1.2 3 _ rfl
        have z_3 := o15.2 3
        have s_4 := o15.1.2 4 _ rfl
        have z_4 := o15.2 4
        have s_5 := o15.1.2 5 _ rfl
        have z_5 := o15.2 5
        have s_6 := o15.1.2 6 _ rfl
        have z_6 := o15.2 6
        have s_7 := o15.1.2 7 _ rfl
        have z_7 := o15.2 7
        have s_8 := o15.1.2 8 _ rfl
        have z_8 := o15.2 8
        go_upto_region 13 with fail
        refine wp_abs (fun Z => Gr wz Z ∧ Box Z v15 [.int .i64 (micN a0 a1 a0 a1 t0 t1 s0 s1 hei o cl 0), .int .i64 (micN a0 a1 a0 a1 t0 t1 s0 s1 hei o cl 1), .int .i64 (micN a0 a1 a0 a1 t0 t1 s0 s1 hei o cl 2), .int .i64 (micN a0 a1 a0 a1 t0 t1 s0 s1 hei o cl 3), .int .i64 (micN a0 a1 a0 a1 t0 t1 s0 s1 hei o cl 4), .int .i64 (micN a0 a1 a0 a1 t0 t1 s0 s1 hei o cl 5), .int .i64 (micN a0 a1 a0 a1 t0 t1 s0 s1 hei o cl 6), .int .i64 (micN a0 a1 a0 a1 t0 t1 s0 s1 hei o cl 7), .int .i64 (micN a0 a1 a0 a1 t0 t1 s0 s1 hei o cl 8)]) ⟨(((((((((gv.setCell (p := ⟨v15, 0, none⟩) l15 _).setCell (p := ⟨v15, 1, none⟩) l15 _).setCell (p := ⟨v15, 2, none⟩) l15 _).setCell (p := ⟨v15, 3, none⟩) l15 _).setCell (p := ⟨v15, 4, none⟩) l15 _).setCell (p := ⟨v15, 5, none⟩) l15 _).setCell (p := ⟨v15, 6, none⟩) l15 _).setCell (p := ⟨v15, 7, none⟩) l15 _).setCell (p := ⟨v15, 8, none⟩) l15 _), (((((((((o15.set (i := 0) (by simp)).set (i := 1) (by simp)).set (i := 2) (by simp)).set (i := 3) (by simp)).set (i := 4) (by simp)).set (i := 5) (by simp)).set (i := 6) (by simp)).set (i := 7) (by simp)).set (i := 8) (by simp)).1⟩ ?_
        clear gv o15 l15 s_0 z_0 s_1 z_1 s_2 z_2 s_3 z_3 s_4 z_4 s_5 z_5 s_6 z_6 s_7 z_7 s_8 z_8
        rintro wy ⟨gY, oM⟩
        go_wp2
        go_loopw [18] (fun x wr => Hid (∃ i : Nat, i ≤ 9 ∧ x = .int .i64 i ∧ Gr wy wr)) (fun x wr => 9 - (intOf x).toNat)
        case atStart => exact Lib.hid ⟨0, by omega, rfl, Below.refl _ _⟩
        case round => as_aux_lemma =>
         obtain ⟨i, hi, rfl, gV⟩ := hrel.out
         clear hrel
         refine wp_abs (fun Z => Gr wy Z) gV ?_
         clear gV
         rintro wi gV
         by_cases hlt : i < 9
         case pos =>
          have cM := nine_at (f := micN a0 a1 a0 a1 t0 t1 s0 s1 hei o cl) (oM.keep gV) hlt
          obtain ⟨_, _, hla, _, i0, i1⟩ := SRow.get ((rI.grow gY).grow gV) (show (inN a0 a1 a0 a1 t0 t1 s0 s1 hei o cl ch)[i]? = some ⟨micN a0 a1 a0 a1 t0 t1 s0 s1 hei o ch i, micN a0 a1 a0 a1 t0 t1 s0 s1 hei o cl i⟩ from by unfold inN; rw [List.getElem?_map, List.getElem?_range hlt]; rfl)
          cases hla
          obtain ⟨bd0, bd1⟩ := micN_bd HB.out (show cl ≤ cl by omega) (show cl ≤ ch by omega) i
          obtain ⟨bd2, bd3⟩ := micN_bd HB.out (show cl ≤ ch by omega) (show ch ≤ ch by omega) i
          obtain ⟨A0, hA0⟩ : ∃ z, micN a0 a1 a0 a1 t0 t1 s0 s1 hei o ch i = z := ⟨_, rfl⟩
          obtain ⟨B0, hB0⟩ : ∃ z, micN a0 a1 a0 a1 t0 t1 s0 s1 hei o cl i = z := ⟨_, rfl⟩
          simp only [hA0, hB0] at cM i0 i1 bd0 bd1 bd2 bd3
          have n1 : ¬ B0 < A0 := by omega
          have n2 : ¬ B0 > B0 := by omega
          have n3 : ¬ B0 < B0 := by omega
          clear hA0 hB0 bd0 bd1 bd2 bd3
          go_upto_region 15 with fail
          go_quiet (fail)
          clear n1 n2 n3 cM i0 i1
          go_wp2
          go_roundw
          case rel => exact Lib.hid ⟨i + 1, by omega, by go_num, (gV.drewN _)⟩
          case measure => simp [intOf]; omega
         case neg =>
          obtain rfl : i = 9 := by omega
          go_wp2
          go_roundw
          case rel => exact Lib.hid ⟨(gW.tr gY).tr gV, .inr (.inl rfl)⟩
          case measure => simp [intOf]
      ·go_upto_region 11 with fail
       have MI := Lib.hid (fun pa ta ba pc tc bc v h1 h2 h3 => micros4_any a0 a1 a0 a1 t0 t1 s0 s1 hei o ch HB.out (by omega) (by omega) pa ta ba pc tc bc v h1 h2 h3)
       refine (show (∀ sd1 : Nat → Value, Code.wp Try.prog _ _ ⟨#[se 0, .int .u8 wh, .int .u8 by0, se 3, se 4, se 5, sd1 6, .pointer (some ⟨v5, 0, none⟩), .pointer (some ⟨v6, 0, none⟩), .pointer (some ⟨D, 0, none⟩), .slice sl8 0 cp8, .int .i64 0, .pointer (some ⟨v7, 0, none⟩), .int .i64 0, .slice (some ⟨ib7, if7, none⟩) 9 ic7, .int .i64 0, .int .i64 1, sd1 17, sd1 18, undef, undef, undef, undef, undef, se 24, se 25, se 26, se 27, se 28, se 29, se 30, se 31, se 32, se 33, se 34, se 35, se 36, se 37, se 38, se 39, se 40, se 41, se 42, se 43, se 44, se 45, se 46, se 47, se 48, se 49, se 50, se 51, se 52, se 53, se 54, se 55, se 56, se 57, se 58, se 59, se 60, se 61, se 62, se 63, se 64, se 65, se 66, se 67, se 68, se 69, se 70, se 71, se 72, se 73, se 74, se 75, se 76, se 77, se 78, se 79, se 80, se 81, se 82, se 83, se 84, se 85, se 86, se 87, se 88, se 89, se 90, se 91, se 92, se 93, se 94, se 95, se 96, se 97, se 98, sd1 99, sd1 100, sd1 101, sd1 102, sd1 103, sd1 104, sd1 105, sd1 106, sd1 107, sd1 108, sd1 109, sd1 110, sd1 111, sd1 112, sd1 113, sd1 114, sd1 115, sd1 116, sd1 117, sd1 118, sd1 119, sd1 120, sd1 121, sd1 122, sd1 123, sd1 124, sd1 125, sd1 126, sd1 127, sd1 128, sd1 129, sd1 130, sd1 131, sd1 132, sd1 133, sd1 134, sd1 135, sd1 136, sd1 137, sd1 138, sd1 139, sd1 140, sd1 141, sd1 142, sd1 143, sd1 144, sd1 145, sd1 146, sd1 147, sd1 148, sd1 149, sd1 150, sd1 151, sd1 152, sd1 153, sd1 154, sd1 155, sd1 156, sd1 157, sd1 158, sd1 159, sd1 160, sd1 161, sd1 162, sd1 163, sd1 164, sd1 165, sd1 166, sd1 167, sd1 168, sd1 169, sd1 170, sd1 171, undef, undef, undef, undef, undef, undef, undef, undef, undef, undef, undef, undef, undef, undef, undef, undef, undef, undef, undef, undef, undef, undef, undef, undef, undef, undef, undef, undef, undef, undef, undef, undef, undef, undef, undef, undef, undef, undef, undef, undef, undef, undef, undef, undef, undef, undef, undef, undef, undef, undef, undef, undef, undef, undef, undef, undef, undef, undef, undef, undef, undef, undef, undef, undef, undef, undef, undef, undef, undef, undef, undef, undef, undef], []⟩ _) → _ from fun h => h ((fun l : List Value => fun i => l.getD i undef) [undef, undef, undef, undef, undef, undef, _, undef, undef, undef, undef, undef, undef, undef, undef, undef, undef, _, _, undef, undef, undef, undef, undef, undef, undef, undef, undef, undef, undef, undef, undef, undef, undef, undef, undef, undef, undef, undef, undef, undef, undef, undef, undef, undef, undef, undef, undef, undef, undef, undef, undef, undef, undef, undef, undef, undef, undef, undef, undef, undef, undef, undef, undef, undef, undef, undef, undef, undef, undef, undef, undef, undef, undef, undef, undef, undef, undef, undef, undef, undef, undef, undef, undef, undef, undef, undef, undef, undef, undef, undef, undef, undef, undef, undef, undef, undef, undef, undef, _, _, _, _, _, _, _, _, _, _, _, _, _, _, _, _, _, _, _, _, _, _, _, _, _, _, _, _, _, _, _, _, _, _, _, _, _, _, _, _, _, _, _, _, _, _, _, _, _, _, _, _, _, _, _, _, _, _, _, _, _, _, _, _, _, _, _, _, _, _, _, _, _])) ?_
       intro sd1
       dsimp only
       refine wp_region_facts 16 [(2, 1), (4, 3), (6, 5), (8, 7), (9, 6), (9, 8), (10, 9), (11, 2), (11, 4), (11, 10), (13, 11), (13, 12), (14, 0), (14, 13)] (fun x => ⟨#[se 0, .int .u8 wh, .int .u8 by0, se 3, se 4, se 5, sd1 6, .pointer (some ⟨v5, 0, none⟩), .pointer (some ⟨v6, 0, none⟩), .pointer (some ⟨D, 0, none⟩), .slice sl8 0 cp8, .int .i64 0, .pointer (some ⟨v7, 0, none⟩), .int .i64 0, .slice (some ⟨ib7, if7, none⟩) 9 ic7, .int .i64 0, .int .i64 1, x 15, sd1 18, undef, undef, undef, undef, undef, se 24, se 25, se 26, se 27, se 28, se 29, se 30, se 31, se 32, se 33, se 34, se 35, se 36, se 37, se 38, se 39, se 40, se 41, se 42, se 43, se 44, se 45, se 46, se 47, se 48, se 49, se 50, se 51, se 52, se 53, se 54, se 55, se 56, se 57, se 58, se 59, se 60, se 61, se 62, se 63, se 64, se 65, se 66, se 67, se 68, se 69, se 70, se 71, se 72, se 73, se 74, se 75, se 76, se 77, se 78, se 79, se 80, se 81, se 82, se 83, se 84, se 85, se 86, se 87, se 88, se 89, se 90, se 91, se 92, se 93, se 94, se 95, se 96, se 97, se 98, sd1 99, sd1 100, sd1 101, sd1 102, x 0, x 1, x 2, x 3, x 4, x 5, x 6, x 7, x 8, x 9, x 10, x 11, x 12, x 13, x 14, sd1 118, sd1 119, sd1 120, sd1 121, sd1 122, sd1 123, sd1 124, sd1 125, sd1 126, sd1 127, sd1 128, sd1 129, sd1 130, sd1 131, sd1 132, sd1 133, sd1 134, sd1 135, sd1 136, sd1 137, sd1 138, sd1 139, sd1 140, sd1 141, sd1 142, sd1 143, sd1 144, sd1 145, sd1 146, sd1 147, sd1 148, sd1 149, sd1 150, sd1 151, sd1 152, sd1 153, sd1 154, sd1 155, sd1 156, sd1 157, sd1 158, sd1 159, sd1 160, sd1 161, sd1 162, sd1 163, sd1 164, sd1 165, sd1 166, sd1 167, sd1 168, sd1 169, sd1 170, sd1 171, undef, undef, undef, undef, undef, undef, undef, undef, undef, undef, undef, undef, undef, undef, undef, undef, undef, undef, undef, undef, undef, undef, undef, undef, undef, undef, undef, undef, undef, undef, undef, undef, undef, undef, undef, undef, undef, undef, undef, undef, undef, undef, undef, undef, undef, undef, undef, undef, undef, undef, undef, undef, undef, undef, undef, undef, undef, undef, undef, undef, undef, undef, undef, undef, undef, undef, undef, undef, undef, undef, undef, undef, undef], []⟩) (fun i => [sd1 103, sd1 104, sd1 105, sd1 106, sd1 107, sd1 108, sd1 109, sd1 110, sd1 111, sd1 112, sd1 113, sd1 114, sd1 115, sd1 116, sd1 117, sd1 17].getD i undef) [fun _ x => x = .agg #[.int .i64 30, .slice (some ⟨P, 0, none⟩) 4 4, .int .i64 hei, .slice (some ⟨T, 0, none⟩) 2 tc, .slice ba 2 bc, .int .i64 9, .bool o], fun _ x => x = .pointer (some ⟨v6, 0, none⟩), fun _ x => x = .int .i64 cl, fun _ x => x = .pointer (some ⟨v6, 1, none⟩), fun _ x => x = .int .i64 ch, fun _ x => x = .pointer (some ⟨v6, 0, none⟩), fun _ x => x = .int .i64 cl, fun _ x => x = .pointer (some ⟨v6, 1, none⟩), fun _ x => x = .int .i64 ch, fun _ x => x = .int .i64 (cl + ch), fun _ x => x = .int .i64 mid, fun _ x => x = .agg #[.int .i64 cl, .int .i64 ch, .int .i64 mid], fun _ x => x = .int .i64 1, fun _ x => x = .int .i64 ch, fun _ x => x = .agg #[.int .i64 (micN a0 a1 a0 a1 t0 t1 s0 s1 hei o ch 0), .int .i64 (micN a0 a1 a0 a1 t0 t1 s0 s1 hei o ch 1), .int .i64 (micN a0 a1 a0 a1 t0 t1 s0 s1 hei o ch 2), .int .i64 (micN a0 a1 a0 a1 t0 t1 s0 s1 hei o ch 3), .int .i64 (micN a0 a1 a0 a1 t0 t1 s0 s1 hei o ch 4), .int .i64 (micN a0 a1 a0 a1 t0 t1 s0 s1 hei o ch 5), .int .i64 (micN a0 a1 a0 a1 t0 t1 s0 s1 hei o ch 6), .int .i64 (micN a0 a1 a0 a1 t0 t1 s0 s1 hei o ch 7), .int .i64 (micN a0 a1 a0 a1 t0 t1 s0 s1 hei o ch 8)], fun v x => ∃ b, x = .pointer (some ⟨b, 0, none⟩) ∧ wz.heap.size ≤ b ∧ Own v b [.int .i64 0, .int .i64 0, .int .i64 0, .int .i64 0, .int .i64 0, .int .i64 0, .int .i64 0, .int .i64 0, .int .i64 0]] (by rfl) (by kernel_rfl) (by kernel_rfl) (by kernel_rfl) (stays_cons (Stays.eq _) (stays_cons (Stays.eq _) (stays_cons (Stays.eq _) (stays_cons (Stays.eq _) (stays_cons (Stays.eq _) (stays_cons (Stays.eq _) (stays_cons (Stays.eq _) (stays_cons (Stays.eq _) (stays_cons (Stays.eq _) (stays_cons (Stays.eq _) (stays_cons (Stays.eq _) (stays_cons (Stays.eq _) (stays_cons (Stays.eq _) (stays_cons (Stays.eq _) (stays_cons (Stays.eq _) (stays_cons ((show Stays (fun v x => ∃ b, x = .pointer (some ⟨b, 0, none⟩) ∧ wz.heap.size ≤ b ∧ Own v b [.int .i64 0, .int .i64 0, .int .i64 0, .int .i64 0, .int .i64 0, .int .i64 0, .int .i64 0, .int .i64 0, .int .i64 0]) from fun v v' x g ⟨b, h, l, o⟩ => ⟨b, h, l, o.keep g⟩)) stays_nil)))))))))))))))) ?step11_1 ?fin11_1
       case step11_1 => as_aux_lemma =>
        rintro i hi x v gv hd K hK
        have hi8 : i = 0 ∨ i = 1 ∨ i = 2 ∨ i = 3 ∨ i = 4 ∨ i = 5 ∨ i = 6 ∨ i = 7 ∨ i = 8 ∨ i = 9 ∨ i = 10 ∨ i = 11 ∨ i = 12 ∨ i = 13 ∨ i = 14 ∨ i = 15 := by omega
        rcases hi8 with rfl | rfl | rfl | rfl | rfl | rfl | rfl | rfl | rfl | rfl | rfl | rfl | rfl | rfl | rfl | rfl
        ·dsimp only [upd, Nat.reduceBEq, cond_true, cond_false]
         refine wpOp_step rfl (fun K' hK' => ?_)
         rw [if_pos (by rfl)]
         refine wp_load_mid 24 _ rfl v5 0 (by rfl) [.int .i64 30, .slice (some ⟨P, 0, none⟩) 4 4, .int .i64 hei, .slice (some ⟨T, 0, none⟩) 2 tc, .slice ba 2 bc, .int .i64 9, .bool o] _ (fun j u hu => by rw [Nat.zero_add]; exact (oL.keep gv).2 j u hu) Try.underlying24 rfl (by kernel_rfl) ?_
         exact hK' _ _ (hK _ _ (Below.refl _ _) (at_of rfl (rfl)))
        ·dsimp only [upd, Nat.reduceBEq, cond_true, cond_false]
         refine wpOp_step rfl (fun K' hK' => ?_)
         go_simp
         exact hK' _ _ (hK _ _ (Below.refl _ _) (at_of rfl (rfl)))
        ·obtain ⟨x, rfl⟩ := upd_of (show x 1 = .pointer (some ⟨v6, 0, none⟩) from hd 1 _ (by simp) rfl)
         dsimp only [upd, Nat.reduceBEq, cond_true, cond_false]
         refine wpOp_step rfl (fun K' hK' => ?_)
         have q := (oA.keep gv).2 0 _ rfl
         go_simp
         exact hK' _ _ (hK _ _ (Below.refl _ _) (at_of rfl (rfl)))
        ·dsimp only [upd, Nat.reduceBEq, cond_true, cond_false]
         refine wpOp_step rfl (fun K' hK' => ?_)
         go_simp
         exact hK' _ _ (hK _ _ (Below.refl _ _) (at_of rfl (rfl)))
        ·obtain ⟨x, rfl⟩ := upd_of (show x 3 = .pointer (some ⟨v6, 1, none⟩) from hd 3 _ (by simp) rfl)
         dsimp only [upd, Nat.reduceBEq, cond_true, cond_false]
         refine wpOp_step rfl (fun K' hK' => ?_)
         have q := (oA.keep gv).2 1 _ rfl
         go_simp
         exact hK' _ _ (hK _ _ (Below.refl _ _) (at_of rfl (rfl)))
        ·dsimp only [upd, Nat.reduceBEq, cond_true, cond_false]
         refine wpOp_step rfl (fun K' hK' => ?_)
         go_simp
         exact hK' _ _ (hK _ _ (Below.refl _ _) (at_of rfl (rfl)))
        ·obtain ⟨x, rfl⟩ := upd_of (show x 5 = .pointer (some ⟨v6, 0, none⟩) from hd 5 _ (by simp) rfl)
         dsimp only [upd, Nat.reduceBEq, cond_true, cond_false]
         refine wpOp_step rfl (fun K' hK' => ?_)
         have q := (oA.keep gv).2 0 _ rfl
         go_simp
         exact hK' _ _ (hK _ _ (Below.refl _ _) (at_of rfl (rfl)))
        ·dsimp only [upd, Nat.reduceBEq, cond_true, cond_false]
         refine wpOp_step rfl (fun K' hK' => ?_)
         go_simp
         exact hK' _ _ (hK _ _ (Below.refl _ _) (at_of rfl (rfl)))
        ·obtain ⟨x, rfl⟩ := upd_of (show x 7 = .pointer (some ⟨v6, 1, none⟩) from hd 7 _ (by simp) rfl)
         dsimp only [upd, Nat.reduceBEq, cond_true, cond_false]
         refine wpOp_step rfl (fun K' hK' => ?_)
         have q := (oA.keep gv).2 1 _ rfl
         go_simp
         exact hK' _ _ (hK _ _ (Below.refl _ _) (at_of rfl (rfl)))
        ·obtain ⟨x, rfl⟩ := upd_of (show x 6 = .int .i64 cl from hd 6 _ (by simp) rfl)
         obtain ⟨x, rfl⟩ := upd_of (show x 8 = .int .i64 ch from hd 8 _ (by simp) rfl)
         dsimp only [upd, Nat.reduceBEq, cond_true, cond_false]
         refine wpOp_step rfl (fun K' hK' => ?_)
         go_simp
         exact hK' _ _ (hK _ _ (Below.refl _ _) (at_of rfl (rfl)))
        ·obtain ⟨x, rfl⟩ := upd_of (show x 9 = .int .i64 (cl + ch) from hd 9 _ (by simp) rfl)
         dsimp only [upd, Nat.reduceBEq, cond_true, cond_false]
         refine wpOp_step rfl (fun K' hK' => ?_)
         go_simp
         exact hK' _ _ (hK _ _ (Below.refl _ _) (at_of rfl (rfl)))
        ·obtain ⟨x, rfl⟩ := upd_of (show x 2 = .int .i64 cl from hd 2 _ (by simp) rfl)
         obtain ⟨x, rfl⟩ := upd_of (show x 4 = .int .i64 ch from hd 4 _ (by simp) rfl)
         obtain ⟨x, rfl⟩ := upd_of (show x 10 = .int .i64 mid from hd 10 _ (by simp) rfl)
         dsimp only [upd, Nat.reduceBEq, cond_true, cond_false]
         refine wpOp_step rfl (fun K' hK' => ?_)
         go_simp
         exact hK' _ _ (hK _ _ (Below.refl _ _) (at_of rfl (rfl)))
        ·dsimp only [upd, Nat.reduceBEq, cond_true, cond_false]
         refine wpOp_step rfl (fun K' hK' => ?_)
         go_simp
         exact hK' _ _ (hK _ _ (Below.refl _ _) (at_of rfl (rfl)))
        ·obtain ⟨x, rfl⟩ := upd_of (show x 11 = .agg #[.int .i64 cl, .int .i64 ch, .int .i64 mid] from hd 11 _ (by simp) rfl)
         obtain ⟨x, rfl⟩ := upd_of (show x 12 = .int .i64 1 from hd 12 _ (by simp) rfl)
         dsimp only [upd, Nat.reduceBEq, cond_true, cond_false]
         refine wpOp_step rfl (fun K' hK' => ?_)
         go_simp
         exact hK' _ _ (hK _ _ (Below.refl _ _) (at_of rfl (rfl)))
        ·obtain ⟨x, rfl⟩ := upd_of (show x 0 = .agg #[.int .i64 30, .slice (some ⟨P, 0, none⟩) 4 4, .int .i64 hei, .slice (some ⟨T, 0, none⟩) 2 tc, .slice ba 2 bc, .int .i64 9, .bool o] from hd 0 _ (by simp) rfl)
         obtain ⟨x, rfl⟩ := upd_of (show x 13 = .int .i64 ch from hd 13 _ (by simp) rfl)
         dsimp only [upd, Nat.reduceBEq, cond_true, cond_false]
         refine wpOp_step rfl (fun K' hK' => ?_)
         go_simp
         refine (MI.out _ _ _ _ _ _ v (r2.grow gv) (r3.grow gv) (r4.grow gv)).mono ?_
         rintro e v' ⟨rfl, hg⟩
         exact hK' _ _ (hK _ _ hg (at_of rfl (rfl)))
        ·dsimp only [upd, Nat.reduceBEq, cond_true, cond_false]
         refine wpOp_step rfl (fun K' hK' => ?_)
         go_simp
         have hg := Gr.al v (.cells #[.int .i64 0, .int .i64 0, .int .i64 0, .int .i64 0, .int .i64 0, .int .i64 0, .int .i64 0, .int .i64 0, .int .i64 0] 78)
         exact hK' _ _ (hK _ _ hg (at_of rfl (⟨_, rfl, gv.size, Own.new v [.int .i64 0, .int .i64 0, .int .i64 0, .int .i64 0, .int .i64 0, .int .i64 0, .int .i64 0, .int .i64 0, .int .i64 0] 78 v.heap.size rfl⟩)))
       case fin11_1 =>
        rintro x v gv hd
        obtain ⟨x, rfl⟩ := upd_of (show x 14 = .agg #[.int .i64 (micN a0 a1 a0 a1 t0 t1 s0 s1 hei o ch 0), .int .i64 (micN a0 a1 a0 a1 t0 t1 s0 s1 hei o ch 1), .int .i64 (micN a0 a1 a0 a1 t0 t1 s0 s1 hei o ch 2), .int .i64 (micN a0 a1 a0 a1 t0 t1 s0 s1 hei o ch 3), .int .i64 (micN a0 a1 a0 a1 t0 t1 s0 s1 hei o ch 4), .int .i64 (micN a0 a1 a0 a1 t0 t1 s0 s1 hei o ch 5), .int .i64 (micN a0 a1 a0 a1 t0 t1 s0 s1 hei o ch 6), .int .i64 (micN a0 a1 a0 a1 t0 t1 s0 s1 hei o ch 7), .int .i64 (micN a0 a1 a0 a1 t0 t1 s0 s1 hei o ch 8)] from hd 14 _ (by omega) rfl)
        obtain ⟨v15, e15, l15, o15⟩ := hd 15 _ (by omega) rfl
        obtain ⟨x, rfl⟩ := upd_of (show x 15 = .pointer (some ⟨v15, 0, none⟩) from e15)
        clear hd
        show wpList Try.prog _ _ (List.drop 16 _) (⟨#[_, _, _, _, _, _, _, _, _, _, _, _, _, _, _, _, _, .pointer (some ⟨v15, 0, none⟩), _, _, _, _, _, _, _, _, _, _, _, _, _, _, _, _, _, _, _, _, _, _, _, _, _, _, _, _, _, _, _, _, _, _, _, _, _, _, _, _, _, _, _, _, _, _, _, _, _, _, _, _, _, _, _, _, _, _, _, _, _, _, _, _, _, _, _, _, _, _, _, _, _, _, _, _, _, _, _, _, _, _, _, _, _, x 0, x 1, x 2, x 3, x 4, x 5, x 6, x 7, x 8, x 9, x 10, x 11, x 12, x 13, .agg #[.int .i64 (micN a0 a1 a0 a1 t0 t1 s0 s1 hei o ch 0), .int .i64 (micN a0 a1 a0 a1 t0 t1 s0 s1 hei o ch 1), .int .i64 (micN a0 a1 a0 a1 t0 t1 s0 s1 hei o ch 2), .int .i64 (micN a0 a1 a0 a1 t0 t1 s0 s1 hei o ch 3), .int .i64 (micN a0 a1 a0 a1 t0 t1 s0 s1 hei o ch 4), .int .i64 (micN a0 a1 a0 a1 t0 t1 s0 s1 hei o ch 5), .int .i64 (micN a0 a1 a0 a1 t0 t1 s0 s1 hei o ch 6), .int .i64 (micN a0 a1 a0 a1 t0 t1 s0 s1 hei o ch 7), .int .i64 (micN a0 a1 a0 a1 t0 t1 s0 s1 hei o ch 8)], _, _, _, _, _, _, _, _, _, _, _, _, _, _, _, _, _, _, _, _, _, _, _, _, _, _, _, _, _, _, _, _, _, _, _, _, _, _, _, _, _, _, _, _, _, _, _, _, _, _, _, _, _, _, _, _, _, _, _, _, _, _, _, _, _, _, _, _, _, _, _, _, _, _, _, _, _, _, _, _, _, _, _, _, _, _, _, _, _, _, _, _, _, _, _, _, _, _, _, _, _, _, _, _, _, _, _, _, _, _, _, _, _, _, _, _, _, _, _, _, _, _, _, _, _, _, _], []⟩ : Act) v
        simp only [List.drop_succ_cons, List.drop_zero]
        clear e15 MI
        have s_0 := o15.1.2 0 _ rfl
        have z_0 := o15.2 0
        have s_1 := o15.1.2 1 _ rfl
        have z_1 := o15.2 1
        have s_2 := o15.1.2 2 _ rfl
        have z_2 := o15.2 2
        have s_3 := o15.1.2 3 _ rfl
        have z_3 := o15.2 3
        have s_4 := o15.1.2 4 _ rfl
        have z_4 := o15.2 4
        have s_5 := o15.1.2 5 _ rfl
        have z_5 := o15.2 5
        have s_6 := o15.1.2 6 _ rfl
        have z_6 := o15.2 6
        have s_7 := o15.1.2 7 _ rfl
        have z_7 := o15.2 7
        have s_8 := o15.1.2 8 _ rfl
        have z_8 := o15.2 8
        go_upto_region 13 with fail
        refine wp_abs (fun Z => Gr wz Z ∧ Box Z v15 [.int .i64 (micN a0 a1 a0 a1 t0 t1 s0 s1 hei o ch 0), .int .i64 (micN a0 a1 a0 a1 t0 t1 s0 s1 hei o ch 1), .int .i64 (micN a0 a1 a0 a1 t0 t1 s0 s1 hei o ch 2), .int .i64 (micN a0 a1 a0 a1 t0 t1 s0 s1 hei o ch 3), .int .i64 (micN a0 a1 a0 a1 t0 t1 s0 s1 hei o ch 4), .int .i64 (micN a0 a1 a0 a1 t0 t1 s0 s1 hei o ch 5), .int .i64 (micN a0 a1 a0 a1 t0 t1 s0 s1 hei o ch 6), .int .i64 (micN a0 a1 a0 a1 t0 t1 s0 s1 hei o ch 7), .int .i64 (micN a0 a1 a0 a1 t0 t1 s0 s1 hei o ch 8)]) ⟨(((((((((gv.setCell (p := ⟨v15, 0, none⟩) l15 _).setCell (p := ⟨v15, 1, none⟩) l15 _).setCell (p := ⟨v15, 2, none⟩) l15 _).setCell (p := ⟨v15, 3, none⟩) l15 _).setCell (p := ⟨v15, 4, none⟩) l15 _).setCell (p := ⟨v15, 5, none⟩) l15 _).setCell (p := ⟨v15, 6, none⟩) l15 _).setCell (p := ⟨v15, 7, none⟩) l15 _).setCell (p := ⟨v15, 8, none⟩) l15 _), (((((((((o15.set (i := 0) (by simp)).set (i := 1) (by simp)).set (i := 2) (by simp)).set (i := 3) (by simp)).set (i := 4) (by simp)).set (i := 5) (by simp)).set (i := 6) (by simp)).set (i := 7) (by simp)).set (i := 8) (by simp)).1⟩ ?_
        clear gv o15 l15 s_0 z_0 s_1 z_1 s_2 z_2 s_3 z_3 s_4 z_4 s_5 z_5 s_6 z_6 s_7 z_7 s_8 z_8
        rintro wy ⟨gY, oM⟩
        go_wp2
        go_loopw [18] (fun x wr => Hid (∃ i : Nat, i ≤ 9 ∧ x = .int .i64 i ∧ Gr wy wr)) (fun x wr => 9 - (intOf x).toNat)
        case atStart => exact Lib.hid ⟨0, by omega, rfl, Below.refl _ _⟩
        case round => as_aux_lemma =>
         obtain ⟨i, hi, rfl, gV⟩ := hrel.out
         clear hrel
         refine wp_abs (fun Z => Gr wy Z) gV ?_
         clear gV
         rintro wi gV
         by_cases hlt : i < 9
         case pos =>
          have cM := nine_at (f := micN a0 a1 a0 a1 t0 t1 s0 s1 hei o ch) (oM.keep gV) hlt
          obtain ⟨_, _, hla, _, i0, i1⟩ := SRow.get ((rI.grow gY).grow gV) (show (inN a0 a1 a0 a1 t0 t1 s0 s1 hei o cl ch)[i]? = some ⟨micN a0 a1 a0 a1 t0 t1 s0 s1 hei o ch i, micN a0 a1 a0 a1 t0 t1 s0 s1 hei o cl i⟩ from by unfold inN; rw [List.getElem?_map, List.getElem?_range hlt]; rfl)
          cases hla
          obtain ⟨bd0, bd1⟩ := micN_bd HB.out (show cl ≤ ch by omega) (show ch ≤ ch by omega) i
          obtain ⟨bd2, bd3⟩ := micN_bd HB.out (show cl ≤ ch by omega) (show ch ≤ ch by omega) i
          obtain ⟨A0, hA0⟩ : ∃ z, micN a0 a1 a0 a1 t0 t1 s0 s1 hei o ch i = z := ⟨_, rfl⟩
          obtain ⟨B0, hB0⟩ : ∃ z, micN a0 a1 a0 a1 t0 t1 s0 s1 hei o cl i = z := ⟨_, rfl⟩
          simp only [hA0, hB0] at cM i0 i1 bd0 bd1 bd2 bd3
          have n1 : ¬ A0 < A0 := by omega
          have n2 : ¬ A0 > B0 := by omega
          have n3 : ¬ B0 < A0 := by omega
          clear hA0 hB0 bd0 bd1 bd2 bd3
          go_upto_region 15 with fail
          go_quiet (fail)
          clear n1 n2 n3 cM i0 i1
          go_wp2
          go_roundw
          case rel => exact Lib.hid ⟨i + 1, by omega, by go_num, (gV.drewN _)⟩
          case measure => simp [intOf]; omega
         case neg =>
          obtain rfl : i = 9 := by omega
          go_wp2
          go_roundw
          case rel => exact Lib.hid ⟨(gW.tr gY).tr gV, .inr (.inr (.inl rfl))⟩
          case measure => simp [intOf]
      ·go_upto_region 11 with fail
       have MI := Lib.hid (fun pa ta ba pc tc bc v h1 h2 h3 => micros4_any a0 a1 a0 a1 t0 t1 s0 s1 hei o mid HB.out (by omega) (by omega) pa ta ba pc tc bc v h1 h2 h3)
       refine (show (∀ sd2 : Nat → Value, Code.wp Try.prog _ _ ⟨#[se 0, .int .u8 wh, .int .u8 by0, se 3, se 4, se 5, sd2 6, .pointer (some ⟨v5, 0, none⟩), .pointer (some ⟨v6, 0, none⟩), .pointer (some ⟨D, 0, none⟩), .slice sl8 0 cp8, .int .i64 0, .pointer (some ⟨v7, 0, none⟩), .int .i64 0, .slice (some ⟨ib7, if7, none⟩) 9 ic7, .int .i64 0, .int .i64 2, sd2 17, sd2 18, undef, undef, undef, undef, undef, se 24, se 25, se 26, se 27, se 28, se 29, se 30, se 31, se 32, se 33, se 34, se 35, se 36, se 37, se 38, se 39, se 40, se 41, se 42, se 43, se 44, se 45, se 46, se 47, se 48, se 49, se 50, se 51, se 52, se 53, se 54, se 55, se 56, se 57, se 58, se 59, se 60, se 61, se 62, se 63, se 64, se 65, se 66, se 67, se 68, se 69, se 70, se 71, se 72, se 73, se 74, se 75, se 76, se 77, se 78, se 79, se 80, se 81, se 82, se 83, se 84, se 85, se 86, se 87, se 88, se 89, se 90, se 91, se 92, se 93, se 94, se 95, se 96, se 97, se 98, sd2 99, sd2 100, sd2 101, sd2 102, sd2 103, sd2 104, sd2 105, sd2 106, sd2 107, sd2 108, sd2 109, sd2 110, sd2 111, sd2 112, sd2 113, sd2 114, sd2 115, sd2 116, sd2 117, sd2 118, sd2 119, sd2 120, sd2 121, sd2 122, sd2 123, sd2 124, sd2 125, sd2 126, sd2 127, sd2 128, sd2 129, sd2 130, sd2 131, sd2 132, sd2 133, sd2 134, sd2 135, sd2 136, sd2 137, sd2 138, sd2 139, sd2 140, sd2 141, sd2 142, sd2 143, sd2 144, sd2 145, sd2 146, sd2 147, sd2 148, sd2 149, sd2 150, sd2 151, sd2 152, sd2 153, sd2 154, sd2 155, sd2 156, sd2 157, sd2 158, sd2 159, sd2 160, sd2 161, sd2 162, sd2 163, sd2 164, sd2 165, sd2 166, sd2 167, sd2 168, sd2 169, sd2 170, sd2 171, undef, undef, undef, undef, undef, undef, undef, undef, undef, undef, undef, undef, undef, undef, undef, undef, undef, undef, undef, undef, undef, undef, undef, undef, undef, undef, undef, undef, undef, undef, undef, undef, undef, undef, undef, undef, undef, undef, undef, undef, undef, undef, undef, undef, undef, undef, undef, undef, undef, undef, undef, undef, undef, undef, undef, undef, undef, undef, undef, undef, undef, undef, undef, undef, undef, undef, undef, undef, undef, undef, undef, undef, undef], []⟩ _) → _ from fun h => h ((fun l : List Value => fun i => l.getD i undef) [undef, undef, undef, undef, undef, undef, _, undef, undef, undef, undef, undef, undef, undef, undef, undef, undef, _, _, undef, undef, undef, undef, undef, undef, undef, undef, undef, undef, undef, undef, undef, undef, undef, undef, undef, undef, undef, undef, undef, undef, undef, undef, undef, undef, undef, undef, undef, undef, undef, undef, undef, undef, undef, undef, undef, undef, undef, undef, undef, undef, undef, undef, undef, undef, undef, undef, undef, undef, undef, undef, undef, undef, undef, undef, undef, undef, undef, undef, undef, undef, undef, undef, undef, undef, undef, undef, undef, undef, undef, undef, undef, undef, undef, undef, undef, undef, undef, undef, _, _, _, _, _, _, _, _, _, _, _, _, _, _, _, _, _, _, _, _, _, _, _, _, _, _, _, _, _, _, _, _, _, _, _, _, _, _, _, _, _, _, _, _, _, _, _, _, _, _, _, _, _, _, _, _, _, _, _, _, _, _, _, _, _, _, _, _, _, _, _, _, _])) ?_
       intro sd2
       dsimp only
       refine wp_region_facts 16 [(2, 1), (4, 3), (6, 5), (8, 7), (9, 6), (9, 8), (10, 9), (11, 2), (11, 4), (11, 10), (13, 11), (13, 12), (14, 0), (14, 13)] (fun x => ⟨#[se 0, .int .u8 wh, .int .u8 by0, se 3, se 4, se 5, sd2 6, .pointer (some ⟨v5, 0, none⟩), .pointer (some ⟨v6, 0, none⟩), .pointer (some ⟨D, 0, none⟩), .slice sl8 0 cp8, .int .i64 0, .pointer (some ⟨v7, 0, none⟩), .int .i64 0, .slice (some ⟨ib7, if7, none⟩) 9 ic7, .int .i64 0, .int .i64 2, x 15, sd2 18, undef, undef, undef, undef, undef, se 24, se 25, se 26, se 27, se 28, se 29, se 30, se 31, se 32, se 33, se 34, se 35, se 36, se 37, se 38, se 39, se 40, se 41, se 42, se 43, se 44, se 45, se 46, se 47, se 48, se 49, se 50, se 51, se 52, se 53, se 54, se 55, se 56, se 57, se 58, se 59, se 60, se 61, se 62, se 63, se 64, se 65, se 66, se 67, se 68, se 69, se 70, se 71, se 72, se 73, se 74, se 75, se 76, se 77, se 78, se 79, se 80, se 81, se 82, se 83, se 84, se 85, se 86, se 87, se 88, se 89, se 90, se 91, se 92, se 93, se 94, se 95, se 96, se 97, se 98, sd2 99, sd2 100, sd2 101, sd2 102, x 0, x 1, x 2, x 3, x 4, x 5, x 6, x 7, x 8, x 9, x 10, x 11, x 12, x 13, x 14, sd2 118, sd2 119, sd2 120, sd2 121, sd2 122, sd2 123, sd2 124, sd2 125, sd2 126, sd2 127, sd2 128, sd2 129, sd2 130, sd2 131, sd2 132, sd2 133, sd2 134, sd2 135, sd2 136, sd2 137, sd2 138, sd2 139, sd2 140, sd2 141, sd2 142, sd2 143, sd2 144, sd2 145, sd2 146, sd2 147, sd2 148, sd2 149, sd2 150, sd2 151, sd2 152, sd2 153, sd2 154, sd2 155, sd2 156, sd2 157, sd2 158, sd2 159, sd2 160, sd2 161, sd2 162, sd2 163, sd2 164, sd2 165, sd2 166, sd2 167, sd2 168, sd2 169, sd2 170, sd2 171, undef, undef, undef, undef, undef, undef, undef, undef, undef, undef, undef, undef, undef, undef, undef, undef, undef, undef, undef, undef, undef, undef, undef, undef, undef, undef, undef, undef, undef, undef, undef, undef, undef, undef, undef, undef, undef, undef, undef, undef, undef, undef, undef, undef, undef, undef, undef, undef, undef, undef, undef, undef, undef, undef, undef, undef, undef, undef, undef, undef, undef, undef, undef, undef, undef, undef, undef, undef, undef, undef, undef, undef, undef], []⟩) (fun i => [sd2 103, sd2 104, sd2 105, sd2 106, sd2 107, sd2 108, sd2 109, sd2 110, sd2 111, sd2 112, sd2 113, sd2 114, sd2 115, sd2 116, sd2 117, sd2 17].getD i undef) [fun _ x => x = .agg #[.int .i64 30, .slice (some ⟨P, 0, none⟩) 4 4, .int .i64 hei, .slice (some ⟨T, 0, none⟩) 2 tc, .slice ba 2 bc, .int .i64 9, .bool o], fun _ x => x = .pointer (some ⟨v6, 0, none⟩), fun _ x => x = .int .i64 cl, fun _ x => x = .pointer (some ⟨v6, 1, none⟩), fun _ x => x = .int .i64 ch, fun _ x => x = .pointer (some ⟨v6, 0, none⟩), fun _ x => x = .int .i64 cl, fun _ x => x = .pointer (some ⟨v6, 1, none⟩), fun _ x => x = .int .i64 ch, fun _ x => x = .int .i64 (cl + ch), fun _ x => x = .int .i64 mid, fun _ x => x = .agg #[.int .i64 cl, .int .i64 ch, .int .i64 mid], fun _ x => x = .int .i64 2, fun _ x => x = .int .i64 mid, fun _ x => x = .agg #[.int .i64 (micN a0 a1 a0 a1 t0 t1 s0 s1 hei o mid 0), .int .i64 (micN a0 a1 a0 a1 t0 t1 s0 s1 hei o mid 1), .int .i64 (micN a0 a1 a0 a1 t0 t1 s0 s1 hei o mid 2), .int .i64 (micN a0 a1 a0 a1 t0 t1 s0 s1 hei o mid 3), .int .i64 (micN a0 a1 a0 a1 t0 t1 s0 s1 hei o mid 4), .int .i64 (micN a0 a1 a0 a1 t0 t1 s0 s1 hei o mid 5), .int .i64 (micN a0 a1 a0 a1 t0 t1 s0 s1 hei o mid 6), .int .i64 (micN a0 a1 a0 a1 t0 t1 s0 s1 hei o mid 7), .int .i64 (micN a0 a1 a0 a1 t0 t1 s0 s1 hei o mid 8)], fun v x => ∃ b, x = .pointer (some ⟨b, 0, none⟩) ∧ wz.heap.size ≤ b ∧ Own v b [.int .i64 0, .int .i64 0, .int .i64 0, .int .i64 0, .int .i64 0, .int .i64 0, .int .i64 0, .int .i64 0, .int .i64 0]] (by rfl) (by kernel_rfl) (by kernel_rfl) (by kernel_rfl) (stays_cons (Stays.eq _) (stays_cons (Stays.eq _) (stays_cons (Stays.eq _) (stays_cons (Stays.eq _) (stays_cons (Stays.eq _) (stays_cons (Stays.eq _) (stays_cons (Stays.eq _) (stays_cons (Stays.eq _) (stays_cons (Stays.eq _) (stays_cons (Stays.eq _) (stays_cons (Stays.eq _) (stays_cons (Stays.eq _) (stays_cons (Stays.eq _) (stays_cons (Stays.eq _) (stays_cons (Stays.eq _) (stays_cons ((show Stays (fun v x => ∃ b, x = .pointer (some ⟨b, 0, none⟩) ∧ wz.heap.size ≤ b ∧ Own v b [.int .i64 0, .int .i64 0, .int .i64 0, .int .i64 0, .int .i64 0, .int .i64 0, .int .i64 0, .int .i64 0, .int .i64 0]) from fun v v' x g ⟨b, h, l, o⟩ => ⟨b, h, l, o.keep g⟩)) stays_nil)))))))))))))))) ?step11_2 ?fin11_2
       case step11_2 => as_aux_lemma =>
        rintro i hi x v gv hd K hK
        have hi8 : i = 0 ∨ i = 1 ∨ i = 2 ∨ i = 3 ∨ i = 4 ∨ i = 5 ∨ i = 6 ∨ i = 7 ∨ i = 8 ∨ i = 9 ∨ i = 10 ∨ i = 11 ∨ i = 12 ∨ i = 13 ∨ i = 14 ∨ i = 15 := by omega
        rcases hi8 with rfl | rfl | rfl | rfl | rfl | rfl | rfl | rfl | rfl | rfl | rfl | rfl | rfl | rfl | rfl | rfl
        ·dsimp only [upd, Nat.reduceBEq, cond_true, cond_false]
         refine wpOp_step rfl (fun K' hK' => ?_)
         rw [if_pos (by rfl)]
         refine wp_load_mid 24 _ rfl v5 0 (by rfl) [.int .i64 30, .slice (some ⟨P, 0, none⟩) 4 4, .int .i64 hei, .slice (some ⟨T, 0, none⟩) 2 tc, .slice ba 2 bc, .int .i64 9, .bool o] _ (fun j u hu => by rw [Nat.zero_add]; exact (oL.keep gv).2 j u hu) Try.underlying24 rfl (by kernel_rfl) ?_
         exact hK' _ _ (hK _ _ (Below.refl _ _) (at_of rfl (rfl)))
        ·dsimp only [upd, Nat.reduceBEq, cond_true, cond_false]
         refine wpOp_step rfl (fun K' hK' => ?_)
         go_simp
         exact hK' _ _ (hK _ _ (Below.refl _ _) (at_of rfl (rfl)))
        ·obtain ⟨x, rfl⟩ := upd_of (show x 1 = .pointer (some ⟨v6, 0, none⟩) from hd 1 _ (by simp) rfl)
         dsimp only [upd, Nat.reduceBEq, cond_true, cond_false]
         refine wpOp_step rfl (fun K' hK' => ?_)
         have q := (oA.keep gv).2 0 _ rfl
         go_simp
         exact hK' _ _ (hK _ _ (Below.refl _ _) (at_of rfl (rfl)))
        ·dsimp only [upd, Nat.reduceBEq, cond_true, cond_false]
         refine wpOp_step rfl (fun K' hK' => ?_)
         go_simp
         exact hK' _ _ (hK _ _ (Below.refl _ _) (at_of rfl (rfl)))
        ·obtain ⟨x, rfl⟩ := upd_of (show x 3 = .pointer (some ⟨v6, 1, none⟩) from hd 3 _ (by simp) rfl)
         dsimp only [upd, Nat.reduceBEq, cond_true, cond_false]
         refine wpOp_step rfl (fun K' hK' => ?_)
         have q := (oA.keep gv).2 1 _ rfl
         go_simp
         exact hK' _ _ (hK _ _ (Below.refl _ _) (at_of rfl (rfl)))
        ·dsimp only [upd, Nat.reduceBEq, cond_true, cond_false]
         refine wpOp_step rfl (fun K' hK' => ?_)
         go_simp
         exact hK' _ _ (hK _ _ (Below.refl _ _) (at_of rfl (rfl)))
        ·obtain ⟨x, rfl⟩ := upd_of (show x 5 = .pointer (some ⟨v6, 0, none⟩) from hd 5 _ (by simp) rfl)
         dsimp only [upd, Nat.reduceBEq, cond_true, cond_false]
         refine wpOp_step rfl (fun K' hK' => ?_)
         have q := (oA.keep gv).2 0 _ rfl
         go_simp
         exact hK' _ _ (hK _ _ (Below.refl _ _) (at_of rfl (rfl)))
        ·dsimp only [upd, Nat.reduceBEq, cond_true, cond_false]
         refine wpOp_step rfl (fun K' hK' => ?_)
         go_simp
         exact hK' _ _ (hK _ _ (Below.refl _ _) (at_of rfl (rfl)))
        ·obtain ⟨x, rfl⟩ := upd_of (show x 7 = .pointer (some ⟨v6, 1, none⟩) from hd 7 _ (by simp) rfl)
         dsimp only [upd, Nat.reduceBEq, cond_true, cond_false]
         refine wpOp_step rfl (fun K' hK' => ?_)
         have q := (oA.keep gv).2 1 _ rfl
         go_simp
         exact hK' _ _ (hK _ _ (Below.refl _ _) (at_of rfl (rfl)))
        ·obtain ⟨x, rfl⟩ := upd_of (show x 6 = .int .i64 cl from hd 6 _ (by simp) rfl)
         obtain ⟨x, rfl⟩ := upd_of (show x 8 = .int .i64 ch from hd 8 _ (by simp) rfl)
         dsimp only [upd, Nat.reduceBEq, cond_true, cond_false]
         refine wpOp_step rfl (fun K' hK' => ?_)
         go_simp
         exact hK' _ _ (hK _ _ (Below.refl _ _) (at_of rfl (rfl)))
        ·obtain ⟨x, rfl⟩ := upd_of (show x 9 = .int .i64 (cl + ch) from hd 9 _ (by simp) rfl)
         dsimp only [upd, Nat.reduceBEq, cond_true, cond_false]
         refine wpOp_step rfl (fun K' hK' => ?_)
         go_simp
         exact hK' _ _ (hK _ _ (Below.refl _ _) (at_of rfl (rfl)))
        ·obtain ⟨x, rfl⟩ := upd_of (show x 2 = .int .i64 cl from hd 2 _ (by simp) rfl)
         obtain ⟨x, rfl⟩ := upd_of (show x 4 = .int .i64 ch from hd 4 _ (by simp) rfl)
         obtain ⟨x, rfl⟩ := upd_of (show x 10 = .int .i64 mid from hd 10 _ (by simp) rfl)
         dsimp only [upd, Nat.reduceBEq, cond_true, cond_false]
         refine wpOp_step rfl (fun K' hK' => ?_)
         go_simp
         exact hK' _ _ (hK _ _ (Below.refl _ _) (at_of rfl (rfl)))
        ·dsimp only [upd, Nat.reduceBEq, cond_true, cond_false]
         refine wpOp_step rfl (fun K' hK' => ?_)
         go_simp
         exact hK' _ _ (hK _ _ (Below.refl _ _) (at_of rfl (rfl)))
        ·obtain ⟨x, rfl⟩ := upd_of (show x 11 = .agg #[.int .i64 cl, .int .i64 ch, .int .i64 mid] from hd 11 _ (by simp) rfl)
         obtain ⟨x, rfl⟩ := upd_of (show x 12 = .int .i64 2 from hd 12 _ (by simp) rfl)
         dsimp only [upd, Nat.reduceBEq, cond_true, cond_false]
         refine wpOp_step rfl (fun K' hK' => ?_)
         go_simp
         exact hK' _ _ (hK _ _ (Below.refl _ _) (at_of rfl (rfl)))
        ·obtain ⟨x, rfl⟩ := upd_of (show x 0 = .agg #[.int .i64 30, .slice (some ⟨P, 0, none⟩) 4 4, .int .i64 hei, .slice (some ⟨T, 0, none⟩) 2 tc, .slice ba 2 bc, .int .i64 9, .bool o] from hd 0 _ (by simp) rfl)
         obtain ⟨x, rfl⟩ := upd_of (show x 13 = .int .i64 mid from hd 13 _ (by simp) rfl)
         dsimp only [upd, Nat.reduceBEq, cond_true, cond_false]
         refine wpOp_step rfl (fun K' hK' => ?_)
         go_simp
         refine (MI.out _ _ _ _ _ _ v (r2.grow gv) (r3.grow gv) (r4.grow gv)).mono ?_
         rintro e v' ⟨rfl, hg⟩
         exact hK' _ _ (hK _ _ hg (at_of rfl (rfl)))
        ·dsimp only [upd, Nat.reduceBEq, cond_true, cond_false]
         refine wpOp_step rfl (fun K' hK' => ?_)
         go_simp
         have hg := Gr.al v (.cells #[.int .i64 0, .int .i64 0, .int .i64 0, .int .i64 0, .int .i64 0, .int .i64 0, .int .i64 0, .int .i64 0, .int .i64 0] 78)
         exact hK' _ _ (hK _ _ hg (at_of rfl (⟨_, rfl, gv.size, Own.new v [.int .i64 0, .int .i64 0, .int .i64 0, .int .i64 0, .int .i64 0, .int .i64 0, .int .i64 0, .int .i64 0, .int .i64 0] 78 v.heap.size rfl⟩)))
       case fin11_2 =>
        rintro x v gv hd
        obtain ⟨x, rfl⟩ := upd_of (show x 14 = .agg #[.int .i64 (micN a0 a1 a0 a1 t0 t1 s0 s1 hei o mid 0), .int .i64 (micN a0 a1 a0 a1 t0 t1 s0 s1 hei o mid 1), .int .i64 (micN a0 a1 a0 a1 t0 t1 s0 s1 hei o mid 2), .int .i64 (micN a0 a1 a0 a1 t0 t1 s0 s1 hei o mid 3), .int .i64 (micN a0 a1 a0 a1 t0 t1 s0 s1 hei o mid 4), .int .i64 (micN a0 a1 a0 a1 t0 t1 s0 s1 hei o mid 5), .int .i64 (micN a0 a1 a0 a1 t0 t1 s0 s1 hei o mid 6), .int .i64 (micN a0 a1 a0 a1 t0 t1 s0 s1 hei o mid 7), .int .i64 (micN a0 a1 a0 a1 t0 t1 s0 s1 hei o mid 8)] from hd 14 _ (by omega) rfl)
        obtain ⟨v15, e15, l15, o15⟩ := hd 15 _ (by omega) rfl
        obtain ⟨x, rfl⟩ := upd_of (show x 15 = .pointer (some ⟨v15, 0, none⟩) from e15)
        clear hd
        show wpList Try.prog _ _ (List.drop 16 _) (⟨#[_, _, _, _, _, _, _, _, _, _, _, _, _, _, _, _, _, .pointer (some ⟨v15, 0, none⟩), _, _, _, _, _, _, _, _, _, _, _, _, _, _, _, _, _, _, _, _, _, _, _, _, _, _, _, _, _, _, _, _, _, _, _, _, _, _, _, _, _, _, _, _, _, _, _, _, _, _, _, _, _, _, _, _, _, _, _, _, _, _, _, _, _, _, _, _, _, _, _, _, _, _, _, _, _, _, _, _, _, _, _, _, _, x 0, x 1, x 2, x 3, x 4, x 5, x 6, x 7, x 8, x 9, x 10, x 11, x 12, x 13, .agg #[.int .i64 (micN a0 a1 a0 a1 t0 t1 s0 s1 hei o mid 0), .int .i64 (micN a0 a1 a0 a1 t0 t1 s0 s1 hei o mid 1), .int .i64 (micN a0 a1 a0 a1 t0 t1 s0 s1 hei o mid 2), .int .i64 (micN a0 a1 a0 a1 t0 t1 s0 s1 hei o mid 3), .int .i64 (micN a0 a1 a0 a1 t0 t1 s0 s1 hei o mid 4), .int .i64 (micN a0 a1 a0 a1 t0 t1 s0 s1 hei o mid 5), .int .i64 (micN a0 a1 a0 a1 t0 t1 s0 s1 hei o mid 6), .int .i64 (micN a0 a1 a0 a1 t0 t1 s0 s1 hei o mid 7), .int .i64 (micN a0 a1 a0 a1 t0 t1 s0 s1 hei o mid 8)], _, _, _, _, _, _, _, _, _, _, _, _, _, _, _, _, _, _, _, _, _, _, _, _, _, _, _, _, _, _, _, _, _, _, _, _, _, _, _, _, _, _, _, _, _, _, _, _, _, _, _, _, _, _, _, _, _, _, _, _, _, _, _, _, _, _, _, _, _, _, _, _, _, _, _, _, _, _, _, _, _, _, _, _, _, _, _, _, _, _, _, _, _, _, _, _, _, _, _, _, _, _, _, _, _, _, _, _, _, _, _, _, _, _, _, _, _, _, _, _, _, _, _, _, _, _, _], []⟩ : Act) v
        simp only [List.drop_succ_cons, List.drop_zero]
        clear e15 MI
        have s_0 := o15.1.2 0 _ rfl
        have z_0 := o15.2 0
        have s_1 := o15.1.2 1 _ rfl
        have z_1 := o15.2 1
        have s_2 := o15.1.2 2 _ rfl
        have z_2 := o15.2 2
        have s_3 := o15.1.2 3 _ rfl
        have z_3 := o15.2 3
        have s_4 := o15.1.2 4 _ rfl
        have z_4 := o15.2 4
        have s_5 := o15.1.2 5 _ rfl
        have z_5 := o15.2 5
        have s_6 := o15.1.2 6 _ rfl
        have z_6 := o15.2 6
        have s_7 := o15.1.2 7 _ rfl
        have z_7 := o15.2 7
        have s_8 := o15.1.2 8 _ rfl
        have z_8 := o15.2 8
        go_upto_region 13 with fail
        refine wp_abs (fun Z => Gr wz Z ∧ Box Z v15 [.int .i64 (micN a0 a1 a0 a1 t0 t1 s0 s1 hei o mid 0), .int .i64 (micN a0 a1 a0 a1 t0 t1 s0 s1 hei o mid 1), .int .i64 (micN a0 a1 a0 a1 t0 t1 s0 s1 hei o mid 2), .int .i64 (micN a0 a1 a0 a1 t0 t1 s0 s1 hei o mid 3), .int .i64 (micN a0 a1 a0 a1 t0 t1 s0 s1 hei o mid 4), .int .i64 (micN a0 a1 a0 a1 t0 t1 s0 s1 hei o mid 5), .int .i64 (micN a0 a1 a0 a1 t0 t1 s0 s1 hei o mid 6), .int .i64 (micN a0 a1 a0 a1 t0 t1 s0 s1 hei o mid 7), .int .i64 (micN a0 a1 a0 a1 t0 t1 s0 s1 hei o mid 8)]) ⟨(((((((((gv.setCell (p := ⟨v15, 0, none⟩) l15 _).setCell (p := ⟨v15, 1, none⟩) l15 _).setCell (p := ⟨v15, 2, none⟩) l15 _).setCell (p := ⟨v15, 3, none⟩) l15 _).setCell (p := ⟨v15, 4, none⟩) l15 _).setCell (p := ⟨v15, 5, none⟩) l15 _).setCell (p := ⟨v15, 6, none⟩) l15 _).setCell (p := ⟨v15, 7, none⟩) l15 _).setCell (p := ⟨v15, 8, none⟩) l15 _), (((((((((o15.set (i := 0) (by simp)).set (i := 1) (by simp)).set (i := 2) (by simp)).set (i := 3) (by simp)).set (i := 4) (by simp)).set (i := 5) (by simp)).set (i := 6) (by simp)).set (i := 7) (by simp)).set (i := 8) (by simp)).1⟩ ?_
        clear gv o15 l15 s_0 z_0 s_1 z_1 s_2 z_2 s_3 z_3 s_4 z_4 s_5 z_5 s_6 z_6 s_7 z_7 s_8 z_8
        rintro wy ⟨gY, oM⟩
        go_wp2
        go_loopw [18] (fun x wr => Hid (∃ i : Nat, i ≤ 9 ∧ x = .int .i64 i ∧ Gr wy wr)) (fun x wr => 9 - (intOf x).toNat)
        case atStart => exact Lib.hid ⟨0, by omega, rfl, Below.refl _ _⟩
        case round => as_aux_lemma =>
         obtain ⟨i, hi, rfl, gV⟩ := hrel.out
         clear hrel
         refine wp_abs (fun Z => Gr wy Z) gV ?_
         clear gV
         rintro wi gV
         by_cases hlt : i < 9
         case pos =>
          have cM := nine_at (f := micN a0 a1 a0 a1 t0 t1 s0 s1 hei o mid) (oM.keep gV) hlt
          obtain ⟨_, _, hla, _, i0, i1⟩ := SRow.get ((rI.grow gY).grow gV) (show (inN a0 a1 a0 a1 t0 t1 s0 s1 hei o cl ch)[i]? = some ⟨micN a0 a1 a0 a1 t0 t1 s0 s1 hei o ch i, micN a0 a1 a0 a1 t0 t1 s0 s1 hei o cl i⟩ from by unfold inN; rw [List.getElem?_map, List.getElem?_range hlt]; rfl)
          cases hla
          obtain ⟨bd0, bd1⟩ := micN_bd HB.out (show cl ≤ mid by omega) (show mid ≤ ch by omega) i
          obtain ⟨bd2, bd3⟩ := micN_bd HB.out (show cl ≤ ch by omega) (show ch ≤ ch by omega) i
          obtain ⟨A0, hA0⟩ : ∃ z, micN a0 a1 a0 a1 t0 t1 s0 s1 hei o ch i = z := ⟨_, rfl⟩
          obtain ⟨B0, hB0⟩ : ∃ z, micN a0 a1 a0 a1 t0 t1 s0 s1 hei o cl i = z := ⟨_, rfl⟩
          simp only [hA0, hB0] at cM i0 i1 bd0 bd1 bd2 bd3
          obtain ⟨M0, hM0⟩ : ∃ z, micN a0 a1 a0 a1 t0 t1 s0 s1 hei o mid i = z := ⟨_, rfl⟩
          simp only [hM0] at cM bd0 bd1
          have n1 : ¬ M0 < A0 := by omega
          have n2 : ¬ M0 > B0 := by omega
          have n3 : ¬ B0 < M0 := by omega
          clear hA0 hB0 bd0 bd1 bd2 bd3
          go_upto_region 15 with fail
          go_quiet (fail)
          clear n1 n2 n3 cM i0 i1
          go_wp2
          go_roundw
          case rel => exact Lib.hid ⟨i + 1, by omega, by go_num, (gV.drewN _)⟩
          case measure => simp [intOf]; omega
         case neg =>
          obtain rfl : i = 9 := by omega
          go_wp2
          go_roundw
          case rel => exact Lib.hid ⟨(gW.tr gY).tr gV, .inr (.inr (.inr rfl))⟩
          case measure => simp [intOf]
      ·clear wq ws wm rI
       obtain ⟨by1, by2⟩ := hby
       obtain ⟨wh1, wh2⟩ := hwh
       obtain ⟨m, hm⟩ : ∃ z, by0 % 9 = z := ⟨_, rfl⟩
       have m0 : 0 ≤ m := by omega
       have m8 : m ≤ 8 := by omega
       have f0 : IntKind.i64.wrap by0 = by0 := IntWalk.i64_in _ (by omega)
       have f1 : by0.tmod 9 = m := by rw [Int.tmod_eq_emod_of_nonneg (by omega)]; exact hm
       have f2 : IntKind.i64.wrap wh = wh := IntWalk.i64_in _ (by omega)
       clear hm
       have hw2 : wh % 2 = 0 ∨ wh % 2 = 1 := by omega
       obtain ⟨hl0, hl1, hl2, hl3⟩ := HWL.out
       have ha0 := HS.out.1
       have ha1 := HS.out.2.1
       rcases hw2 with hw2 | hw2
       ·as_aux_lemma =>
        have f3 : wh.tmod 2 = 0 := by rw [Int.tmod_eq_emod_of_nonneg (by omega)]; exact hw2
        clear hw2
        obtain ⟨b0, b1, b2, b3, b4, b5, b6⟩ := oL.c7
        go_upto_region 18 with (go_at_call 16; refine (ownAll_any a0 a1 a0 a1 t0 t1 s0 s1 hei o _ _ _ _ _ _ _ r2 r3 r4).mono ?_; rintro e wL ⟨w3, lc3, w7, lc7, w11, lc11, rfl, gL, ⟨oK, o7', o11'⟩, ⟨lk3, lk7, lk11⟩, n37, n311, n711⟩)
        obtain ⟨B, hB⟩ : ∃ B, B = wL.heap.size := ⟨_, rfl⟩
        have oV := Box.new wL [.int .i64 30, .slice (some ⟨w3, 0, none⟩) 4 lc3, .int .i64 hei, .slice (some ⟨w7, 0, none⟩) 2 lc7, .slice (some ⟨w11, 0, none⟩) 2 lc11, .int .i64 9, .bool o] 24 B hB
        have nB : B ≠ w3 := by have := oK.1.1; omega
        rw [← hB]
        clear b0 b1 b2 b3 b4 b5 b6
        have m7 := Own.row (l := [t0, t1]) o7' (by simp)
        have m11 := Own.row (l := [s0, s1]) o11' (by simp)
        refine wp_abs (fun X => Gr wz X ∧ Box X B [.int .i64 30, .slice (some ⟨w3, 0, none⟩) 4 lc3, .int .i64 hei, .slice (some ⟨w7, 0, none⟩) 2 lc7, .slice (some ⟨w11, 0, none⟩) 2 lc11, .int .i64 9, .bool o] ∧ Own X w3 [.int .i64 a0, .int .i64 a1, .int .i64 a0, .int .i64 a1] ∧ IRow X (some ⟨w7, 0, none⟩) [t0, t1] ∧ IRow X (some ⟨w11, 0, none⟩) [s0, s1]) ⟨gL.tr (Gr.al _ _), oV, oK.keep (Gr.al _ _), m7.grow (Gr.al _ _), m11.grow (Gr.al _ _)⟩ ?_
        clear gL oV oK m7 m11 hB o7' o11' lk7 lk11 n711
        rintro X ⟨gX, oV, oK, m7, m11⟩
        obtain ⟨PM, hPM⟩ : ∃ z, a0 + m = z := ⟨_, rfl⟩
        have w4 : IntKind.i64.wrap (a0 + m) = PM := by rw [IntWalk.i64_in _ (by omega)]; exact hPM
        have l1 := oV.2 1 _ rfl
        have e_ := oK.1.2 2 _ rfl
        have z_ := oK.2 2
        go_upto_region 19 with fail
        refine wp_abs (fun Z => Gr wz Z ∧ Box Z B [.int .i64 30, .slice (some ⟨w3, 0, none⟩) 4 lc3, .int .i64 hei, .slice (some ⟨w7, 0, none⟩) 2 lc7, .slice (some ⟨w11, 0, none⟩) 2 lc11, .int .i64 9, .bool o] ∧ Own Z w3 [.int .i64 a0, .int .i64 a1, .int .i64 PM, .int .i64 a1] ∧ IRow Z (some ⟨w7, 0, none⟩) [t0, t1] ∧ IRow Z (some ⟨w11, 0, none⟩) [s0, s1]) ⟨gX.setCell (p := ⟨w3, 2, none⟩) lk3 _, oV.other nB, oK.set (i := 2) (by simp), RowOf.kx m7 (Kx.set (Z := fun j => j = w3) (p := ⟨w3, 2, none⟩) rfl _) (fun b off e e2 => by cases e; exact n37 e2.symm), RowOf.kx m11 (Kx.set (Z := fun j => j = w3) (p := ⟨w3, 2, none⟩) rfl _) (fun b off e e2 => by cases e; exact n311 e2.symm)⟩ ?_
        clear gX oV oK m7 m11 l1 e_ z_ w4 f3
        rintro Y9 ⟨gX, oV, oK, m7, m11⟩
        have gR := gX
        replace gU := gU.tr gR
        replace oL := oL.keep gR
        replace oA := oA.keep gR
        replace r2 := r2.grow gR
        replace r3 := r3.grow gR
        replace r4 := r4.grow gR
        replace oW := oW.keep gR
        clear gR
        have HBm : Hid (Blank4 a0 a1 PM a1 t0 t1 s0 s1 hei o) := Lib.hid (by
         obtain ⟨y0, y1, y2, y3, y4, y5, y6, y7, y8, y9⟩ := HB.out
         refine ⟨y0, y1, ?_, ?_, y4, y5, y6, y7, y8, y9⟩ <;> omega)
        have q := H2.out m m0 m8
        rw [hPM] at q
        have CW := Lib.hid (fun pa ta ba pc tc bc v h1 h2 h3 => close4_any a0 a1 PM a1 t0 t1 s0 s1 hei o W cl ch HBm.out HW.out HC.out pa ta ba pc tc bc v h1 h2 h3)
        obtain ⟨N1, hN1⟩ : ∃ z, 1000 * PM = z := ⟨_, rfl⟩
        obtain ⟨N2, hN2⟩ : ∃ z, N1 - cl = z := ⟨_, rfl⟩
        obtain ⟨N3, hN3⟩ : ∃ z, 1000 * W.lh = z := ⟨_, rfl⟩
        rw [hN1, hN2, hN3] at q
        have u1 : IntKind.i64.wrap (1000 * PM) = N1 := by rw [IntWalk.i64_in _ (by omega)]; exact hN1
        have u2 : IntKind.i64.wrap (N1 - cl) = N2 := by rw [IntWalk.i64_in _ (by omega)]; exact hN2
        have u3 : IntKind.i64.wrap (1000 * W.lh) = N3 := by rw [IntWalk.i64_in _ (by omega)]; exact hN3
        have mK := Own.row (l := [a0, a1, PM, a1]) oK (by simp)
        clear hPM hN1 hN2 hN3
        by_cases hle : N2 ≤ N3
        ·as_aux_lemma =>
         rw [if_pos hle] at q
         have q := Lib.hid q
         obtain ⟨b0, b1, b2, b3, b4, b5, b6⟩ := oV.c7
         obtain ⟨c0_, c1_⟩ := oA.c2
         have d0_ := oW.2 0 _ rfl
         have d1_ := oW.2 1 _ rfl
         have d2_ := oW.2 2 _ rfl
         have d3_ := oW.2 3 _ rfl
         have d4_ := oW.2 4 _ rfl
         have d5_ := oW.2 5 _ rfl
         have d6_ := oW.2 6 _ rfl
         have d7_ := oW.2 7 _ rfl
         have d8_ := oW.2 8 _ rfl
         have d9_ := oW.2 9 _ rfl
         have d10_ := oW.2 10 _ rfl
         go_upto_region 23 with (go_at_call 42; refine ((CW.out _ _ _ _ _ _ _ mK m7 m11).mono (fun e w' h => h.none q.out)).mono ?_; rintro e wC ⟨a9, c9, rfl, gC⟩; clear d0_ d1_ d2_ d3_ d4_ d5_ d6_ d7_ d8_ d9_ d10_; have d1_ := (oW.keep gC).2 1 _ rfl; have d3_ := (oW.keep gC).2 3 _ rfl)
         clear b0 b1 b2 b3 b4 b5 b6 c0_ c1_ d1_ d3_
         refine wp_abs (fun Z => Gr wz Z ∧ Gr Y9 Z) ⟨gX.tr gC, gC⟩ ?_
         clear gC
         rintro wc ⟨gY9, gC⟩
         replace oV := oV.keep gC
         replace oK := oK.keep gC
         replace oA := oA.keep gC
         replace gU := gU.tr gC
         have l1 := oV.2 1 _ rfl
         have e_ := oK.1.2 2 _ rfl
         obtain ⟨c0_, c1_⟩ := oA.c2
         go_quiet (fail)
         clear u1 u2 u3
         go_upto_region 24 with fail
         go_wp2_with (first | (go_at_call 15; refine (known_any _).mono ?_; rintro e w10 ⟨rfl, g10⟩))
         go_ret
         exact ⟨rfl, (gU.tr (Gr.drewN (Below.refl _ _) _)).tr g10⟩
        ·as_aux_lemma =>
         rw [if_neg hle] at q
         have q := Lib.hid q
         obtain ⟨b0, b1, b2, b3, b4, b5, b6⟩ := oV.c7
         obtain ⟨c0_, c1_⟩ := oA.c2
         have d0_ := oW.2 0 _ rfl
         have d1_ := oW.2 1 _ rfl
         have d2_ := oW.2 2 _ rfl
         have d3_ := oW.2 3 _ rfl
         have d4_ := oW.2 4 _ rfl
         have d5_ := oW.2 5 _ rfl
         have d6_ := oW.2 6 _ rfl
         have d7_ := oW.2 7 _ rfl
         have d8_ := oW.2 8 _ rfl
         have d9_ := oW.2 9 _ rfl
         have d10_ := oW.2 10 _ rfl
         go_upto_region 23 with (go_at_call 42; refine ((CW.out _ _ _ _ _ _ _ mK m7 m11).mono (fun e w' h => h.one q.out)).mono ?_; rintro e wC ⟨xb, xo, xc, rfl, gC, xl, x0_, x1_⟩; clear d0_ d1_ d2_ d3_ d4_ d5_ d6_ d7_ d8_ d9_ d10_; have d1_ := (oW.keep gC).2 1 _ rfl; have d3_ := (oW.keep gC).2 3 _ rfl)
         clear b0 b1 b2 b3 b4 b5 b6 c0_ c1_ d1_ d3_
         refine wp_abs (fun Z => Gr wz Z ∧ Gr Y9 Z ∧ xb < Z.heap.size ∧ Z.cell? ⟨xb, xo, none⟩ = some (.int .i64 2) ∧ Z.cell? ⟨xb, xo + 1, none⟩ = some (.int .i64 cl)) ⟨gX.tr gC, gC, xl, x0_, x1_⟩ ?_
         clear gC xl x0_ x1_
         rintro wc ⟨gY9, gC, xl, x0_, x1_⟩
         replace oV := oV.keep gC
         replace oK := oK.keep gC
         replace oA := oA.keep gC
         replace gU := gU.tr gC
         have l1 := oV.2 1 _ rfl
         have e_ := oK.1.2 2 _ rfl
         obtain ⟨c0_, c1_⟩ := oA.c2
         go_quiet (fail)
         clear u1 u2 u3
         go_upto_region 25 with fail
         refine wp_abs (fun Z => Gr wc Z) (Gr.drewN (Below.refl _ _) _) ?_
         rintro wd gD
         replace gU := gU.tr gD
         have f0_ := From.keep (gD.cell xl x0_)
         have f1_ := From.keep (gD.cell xl x1_)
         have f2_ := From.keep ((oA.keep gD).2 0 _ rfl)
         have KN := Lib.hid (fun (u : From wd) => known_any u.val)
         clear l1 e_ c0_ c1_ x0_ x1_
         refine wp_region_gr (by kernel_rfl) (by kernel_rfl) ?_
         repeat (go_big_quiet_step (first | (go_at_call 15; (with_reducible exact Calls.gr (KN.out _)))))
         refine wpQuiet_nil ?_
         rintro _ ⟨u, rfl⟩
         go_wp2
         go_ret
         exact ⟨rfl, gU.tr u.property⟩
       ·as_aux_lemma =>
        have f3 : wh.tmod 2 = 1 := by rw [Int.tmod_eq_emod_of_nonneg (by omega)]; exact hw2
        clear hw2
        obtain ⟨b0, b1, b2, b3, b4, b5, b6⟩ := oL.c7
        go_upto_region 18 with (go_at_call 16; refine (ownAll_any a0 a1 a0 a1 t0 t1 s0 s1 hei o _ _ _ _ _ _ _ r2 r3 r4).mono ?_; rintro e wL ⟨w3, lc3, w7, lc7, w11, lc11, rfl, gL, ⟨oK, o7', o11'⟩, ⟨lk3, lk7, lk11⟩, n37, n311, n711⟩)
        obtain ⟨B, hB⟩ : ∃ B, B = wL.heap.size := ⟨_, rfl⟩
        have oV := Box.new wL [.int .i64 30, .slice (some ⟨w3, 0, none⟩) 4 lc3, .int .i64 hei, .slice (some ⟨w7, 0, none⟩) 2 lc7, .slice (some ⟨w11, 0, none⟩) 2 lc11, .int .i64 9, .bool o] 24 B hB
        have nB : B ≠ w3 := by have := oK.1.1; omega
        rw [← hB]
        clear b0 b1 b2 b3 b4 b5 b6
        have m7 := Own.row (l := [t0, t1]) o7' (by simp)
        have m11 := Own.row (l := [s0, s1]) o11' (by simp)
        refine wp_abs (fun X => Gr wz X ∧ Box X B [.int .i64 30, .slice (some ⟨w3, 0, none⟩) 4 lc3, .int .i64 hei, .slice (some ⟨w7, 0, none⟩) 2 lc7, .slice (some ⟨w11, 0, none⟩) 2 lc11, .int .i64 9, .bool o] ∧ Own X w3 [.int .i64 a0, .int .i64 a1, .int .i64 a0, .int .i64 a1] ∧ IRow X (some ⟨w7, 0, none⟩) [t0, t1] ∧ IRow X (some ⟨w11, 0, none⟩) [s0, s1]) ⟨gL.tr (Gr.al _ _), oV, oK.keep (Gr.al _ _), m7.grow (Gr.al _ _), m11.grow (Gr.al _ _)⟩ ?_
        clear gL oV oK m7 m11 hB o7' o11' lk7 lk11 n711
        rintro X ⟨gX, oV, oK, m7, m11⟩
        obtain ⟨PM, hPM⟩ : ∃ z, a1 + m = z := ⟨_, rfl⟩
        have w4 : IntKind.i64.wrap (a1 + m) = PM := by rw [IntWalk.i64_in _ (by omega)]; exact hPM
        have l1 := oV.2 1 _ rfl
        have e_ := oK.1.2 3 _ rfl
        have z_ := oK.2 3
        go_upto_region 19 with fail
        refine wp_abs (fun Z => Gr wz Z ∧ Box Z B [.int .i64 30, .slice (some ⟨w3, 0, none⟩) 4 lc3, .int .i64 hei, .slice (some ⟨w7, 0, none⟩) 2 lc7, .slice (some ⟨w11, 0, none⟩) 2 lc11, .int .i64 9, .bool o] ∧ Own Z w3 [.int .i64 a0, .int .i64 a1, .int .i64 a0, .int .i64 PM] ∧ IRow Z (some ⟨w7, 0, none⟩) [t0, t1] ∧ IRow Z (some ⟨w11, 0, none⟩) [s0, s1]) ⟨gX.setCell (p := ⟨w3, 3, none⟩) lk3 _, oV.other nB, oK.set (i := 3) (by simp), RowOf.kx m7 (Kx.set (Z := fun j => j = w3) (p := ⟨w3, 3, none⟩) rfl _) (fun b off e e2 => by cases e; exact n37 e2.symm), RowOf.kx m11 (Kx.set (Z := fun j => j = w3) (p := ⟨w3, 3, none⟩) rfl _) (fun b off e e2 => by cases e; exact n311 e2.symm)⟩ ?_
        clear gX oV oK m7 m11 l1 e_ z_ w4 f3
        rintro Y9 ⟨gX, oV, oK, m7, m11⟩
        have gR := gX
        replace gU := gU.tr gR
        replace oL := oL.keep gR
        replace oA := oA.keep gR
        replace r2 := r2.grow gR
        replace r3 := r3.grow gR
        replace r4 := r4.grow gR
        replace oW := oW.keep gR
        clear gR
        have HBm : Hid (Blank4 a0 a1 a0 PM t0 t1 s0 s1 hei o) := Lib.hid (by
         obtain ⟨y0, y1, y2, y3, y4, y5, y6, y7, y8, y9⟩ := HB.out
         refine ⟨y0, y1, ?_, ?_, y4, y5, y6, y7, y8, y9⟩ <;> omega)
        have q := H3.out m m0 m8
        rw [hPM] at q
        have CW := Lib.hid (fun pa ta ba pc tc bc v h1 h2 h3 => close4_any a0 a1 a0 PM t0 t1 s0 s1 hei o W cl ch HBm.out HW.out HC.out pa ta ba pc tc bc v h1 h2 h3)
        obtain ⟨N1, hN1⟩ : ∃ z, 1000 * PM = z := ⟨_, rfl⟩
        obtain ⟨N2, hN2⟩ : ∃ z, N1 - cl = z := ⟨_, rfl⟩
        obtain ⟨N3, hN3⟩ : ∃ z, 1000 * W.wh = z := ⟨_, rfl⟩
        rw [hN1, hN2, hN3] at q
        have u1 : IntKind.i64.wrap (1000 * PM) = N1 := by rw [IntWalk.i64_in _ (by omega)]; exact hN1
        have u2 : IntKind.i64.wrap (N1 - cl) = N2 := by rw [IntWalk.i64_in _ (by omega)]; exact hN2
        have u3 : IntKind.i64.wrap (1000 * W.wh) = N3 := by rw [IntWalk.i64_in _ (by omega)]; exact hN3
        have mK := Own.row (l := [a0, a1, a0, PM]) oK (by simp)
        clear hPM hN1 hN2 hN3
        by_cases hle : N2 ≤ N3
        ·as_aux_lemma =>
         rw [if_pos hle] at q
         have q := Lib.hid q
         obtain ⟨b0, b1, b2, b3, b4, b5, b6⟩ := oV.c7
         obtain ⟨c0_, c1_⟩ := oA.c2
         have d0_ := oW.2 0 _ rfl
         have d1_ := oW.2 1 _ rfl
         have d2_ := oW.2 2 _ rfl
         have d3_ := oW.2 3 _ rfl
         have d4_ := oW.2 4 _ rfl
         have d5_ := oW.2 5 _ rfl
         have d6_ := oW.2 6 _ rfl
         have d7_ := oW.2 7 _ rfl
         have d8_ := oW.2 8 _ rfl
         have d9_ := oW.2 9 _ rfl
         have d10_ := oW.2 10 _ rfl
         go_upto_region 23 with (go_at_call 42; refine ((CW.out _ _ _ _ _ _ _ mK m7 m11).mono (fun e w' h => h.none q.out)).mono ?_; rintro e wC ⟨a9, c9, rfl, gC⟩; clear d0_ d1_ d2_ d3_ d4_ d5_ d6_ d7_ d8_ d9_ d10_; have d1_ := (oW.keep gC).2 1 _ rfl; have d3_ := (oW.keep gC).2 3 _ rfl)
         clear b0 b1 b2 b3 b4 b5 b6 c0_ c1_ d1_ d3_
         refine wp_abs (fun Z => Gr wz Z ∧ Gr Y9 Z) ⟨gX.tr gC, gC⟩ ?_
         clear gC
         rintro wc ⟨gY9, gC⟩
         replace oV := oV.keep gC
         replace oK := oK.keep gC
         replace oA := oA.keep gC
         replace gU := gU.tr gC
         have l1 := oV.2 1 _ rfl
         have e_ := oK.1.2 3 _ rfl
         obtain ⟨c0_, c1_⟩ := oA.c2
         go_quiet (fail)
         clear u1 u2 u3
         go_upto_region 24 with fail
         go_wp2_with (first | (go_at_call 15; refine (known_any _).mono ?_; rintro e w10 ⟨rfl, g10⟩))
         go_ret
         exact ⟨rfl, (gU.tr (Gr.drewN (Below.refl _ _) _)).tr g10⟩
        ·as_aux_lemma =>
         rw [if_neg hle] at q
         have q := Lib.hid q
         obtain ⟨b0, b1, b2, b3, b4, b5, b6⟩ := oV.c7
         obtain ⟨c0_, c1_⟩ := oA.c2
         have d0_ := oW.2 0 _ rfl
         have d1_ := oW.2 1 _ rfl
         have d2_ := oW.2 2 _ rfl
         have d3_ := oW.2 3 _ rfl
         have d4_ := oW.2 4 _ rfl
         have d5_ := oW.2 5 _ rfl
         have d6_ := oW.2 6 _ rfl
         have d7_ := oW.2 7 _ rfl
         have d8_ := oW.2 8 _ rfl
         have d9_ := oW.2 9 _ rfl
         have d10_ := oW.2 10 _ rfl
         go_upto_region 23 with (go_at_call 42; refine ((CW.out _ _ _ _ _ _ _ mK m7 m11).mono (fun e w' h => h.one q.out)).mono ?_; rintro e wC ⟨xb, xo, xc, rfl, gC, xl, x0_, x1_⟩; clear d0_ d1_ d2_ d3_ d4_ d5_ d6_ d7_ d8_ d9_ d10_; have d1_ := (oW.keep gC).2 1 _ rfl; have d3_ := (oW.keep gC).2 3 _ rfl)
         clear b0 b1 b2 b3 b4 b5 b6 c0_ c1_ d1_ d3_
         refine wp_abs (fun Z => Gr wz Z ∧ Gr Y9 Z ∧ xb < Z.heap.size ∧ Z.cell? ⟨xb, xo, none⟩ = some (.int .i64 3) ∧ Z.cell? ⟨xb, xo + 1, none⟩ = some (.int .i64 cl)) ⟨gX.tr gC, gC, xl, x0_, x1_⟩ ?_
         clear gC xl x0_ x1_
         rintro wc ⟨gY9, gC, xl, x0_, x1_⟩
         replace oV := oV.keep gC
         replace oK := oK.keep gC
         replace oA := oA.keep gC
         replace gU := gU.tr gC
         have l1 := oV.2 1 _ rfl
         have e_ := oK.1.2 3 _ rfl
         obtain ⟨c0_, c1_⟩ := oA.c2
         go_quiet (fail)
         clear u1 u2 u3
         go_upto_region 25 with fail
         refine wp_abs (fun Z => Gr wc Z) (Gr.drewN (Below.refl _ _) _) ?_
         rintro wd gD
         replace gU := gU.tr gD
         have f0_ := From.keep (gD.cell xl x0_)
         have f1_ := From.keep (gD.cell xl x1_)
         have f2_ := From.keep ((oA.keep gD).2 0 _ rfl)
         have KN := Lib.hid (fun (u : From wd) => known_any u.val)
         clear l1 e_ c0_ c1_ x0_ x1_
         refine wp_region_gr (by kernel_rfl) (by kernel_rfl) ?_
         repeat (go_big_quiet_step (first | (go_at_call 15; (with_reducible exact Calls.gr (KN.out _)))))
         refine wpQuiet_nil ?_
         rintro _ ⟨u, rfl⟩
         go_wp2
         go_ret
         exact ⟨rfl, gU.tr u.property⟩

end Go.Proofs.Ytpfnlldnddjbmaa

namespace Go.Proofs.Ytpfnlldnddjbmaa
set_option linter.unusedVariables false
set_option linter.unusedSimpArgs false
open Go.RowKit Go.ChangeShapes

section
variable {H : Type} {enc : TypeId × Value → H} {P : Program} {W W' : World}

theorem trodAll_stays (hl : laidOutB P = true) (g : Gr W W') {sp : Nat → Bool} : ∀ (ts : List TypeId) (vs : List Value) (ds : List (DataW H)) (ps : List MemPlace), (∀ t ∈ ts, P.readableRec t = true ∧ t < P.types.size) →
    DataW.TrodAll enc P W 0 (fun _ => true) true ts vs ds ps → (∀ p ∈ ps, p.block < W.heap.size) → (∀ p ∈ ps, sp p.block = true) → DataW.TrodAll enc P W' 0 sp true ts vs ds ps
  | [], [], [], _, _, h, _, _ => h
  | t :: ts, v :: vs, d :: ds, ps, ht, h, hlt, hsp => by
    obtain ⟨p, q, h1, h2, rfl⟩ := h
    exact ⟨p, q, WideElems.Trod_stays hl (ht t (by simp)).1 (ht t (by simp)).2 h1 (fun x hx => g.same (hlt x (by simp [hx]))) (fun x hx => hsp x (by simp [hx])),
      trodAll_stays hl g ts vs ds q (fun u hu => ht u (by simp [hu])) h2 (fun x hx => hlt x (by simp [hx])) (fun x hx => hsp x (by simp [hx])), rfl⟩

/-- A law that returned true in a world that only grew, its arguments as they were. -/
theorem law_true {f : Func} {s : ChangeSpec} {bt : TypeId} {args : Array Value} {ds : List (DataW H)} {p : List MemPlace}
    (hl : laidOutB P = true) (hpt : ∀ t ∈ f.params.toList, P.readableRec t = true ∧ t < P.types.size) (hbt : P.underlying bt = some .bool) (hrt : f.resultTypes = #[bt]) (hsv : s.vars = [])
    (hs : s.fn H ds = { results := [.lit (.bool true)], args := ds })
    (hW : DataW.Whole enc P f.params.toList s.vars false W args.toList ds [] p) (g : Gr W W') :
    s.post enc P f false true false false W args (.bool true) W' := by
  have hW0 := hW
  obtain ⟨pa, pv, hA, hV, hp, hfz, hnd⟩ := hW0
  rw [hsv] at hV
  have hpv : pv = [] := hV
  subst hpv
  rw [List.append_nil] at hp
  subst hp
  have hold : ∀ x ∈ p, x.block < W.heap.size := fun x hx => hW.lt x hx
  have hargs : ∀ sp : Nat → Bool, (∀ x ∈ p, sp x.block = true) → DataW.TrodAll enc P W' 0 sp true f.params.toList args.toList ds p := fun sp hsp => trodAll_stays hl g _ _ _ _ hpt hA hold hsp
  have hres : ∀ (b : Nat) (sp : Nat → Bool) (hd : Bool), DataW.TrodAll enc P W' b sp hd f.resultTypes.toList ((Value.bool true).resultList f.resultTypes.size) [.lit (.bool true)] [] := fun b sp hd => by
    rw [hrt]
    exact trodAll_cons_mk (shut_bool hbt _) trodAll_mk0
  have hok : ∀ (j : Nat) (t : TypeId) (r : Value), f.resultTypes[j]? = some t → ((Value.bool true).resultList f.resultTypes.size)[j]? = some r → Value.okWide P W' .any 0 t r := ok_one hrt rfl (okWide_bool_mk hbt _)
  have es : s.fn H (ds ++ []) = { results := [.lit (.bool true)], args := ds } := by rw [List.append_nil]; exact hs
  have hsp0 : ∀ x ∈ p, (fun b => decide (b < W.heap.size)) x.block = true := fun x hx => by simpa using hold x hx
  refine ⟨ds, [], p, [], p, [], hW, ?_, ?_, ?_, World.keptBut_mono (fun x hx => hx.elim) (g.frame (fun _ => False)), fun _ => ?_⟩
  · rw [es]; exact hres _ _ _
  · rw [es]; exact hargs _ hsp0
  · rw [es, hsv]; rfl
  · refine ⟨hok, [.lit (.bool true)] ++ ds, [], ([] ++ p) ++ [], ⟨[] ++ p, [], trodAll_append (hargs (fun _ => true) (fun _ _ => rfl)) (hres _ _ _), ?_, rfl, ?_, ?_⟩, ?_⟩
    · rw [hsv]; rfl
    · intro b off hx
      have hx' : MemPlace.cell b off ∈ p := by simpa using hx
      have hb : b < W.heap.size := hold _ hx'
      rw [g.frozen (p := ⟨b, off, none⟩) hb]
      exact hfz b off hx'
    · intro ha
      cases ha
    · intro x hx _
      simpa using hx

/-- Made of integers of kind k alone, cell by cell: by looking. -/
def allK (P : Program) (k : IntKind) : Nat → TypeId → Bool
  | 0, _ => false
  | f + 1, t => match P.underlying t with
    | some (.int k') => decide (k' = k) && decide (P.cellsOf t = 1)
    | some (.struct fs) => fs.toList.all (fun x => allK P k f x.type) && (List.range (P.cellsOf t)).all fun i => fs.toList.any fun x => decide (x.offset ≤ i) && decide (i < x.offset + P.cellsOf x.type)
    | some (.array n e) => allK P k f e && (List.range (P.cellsOf t)).all fun i => (List.range n).any fun j => decide (j * P.cellsOf e ≤ i) && decide (i < j * P.cellsOf e + P.cellsOf e)
    | _ => false

theorem piece {cs : List Value} {o n i : Nat} (h1 : o ≤ i) (h2 : i < o + n) : ((cs.drop o).take n)[i - o]? = cs[i]? := by
  rw [List.getElem?_take_of_lt (by omega), List.getElem?_drop, show o + (i - o) = i by omega]

theorem mapM_at {α β : Type} {f : α → Option β} : ∀ (l : List α) (ys : List β), l.mapM f = some ys → ∀ a ∈ l, ∃ y, f a = some y
  | [], _, _, a, ha => by cases ha
  | b :: l, ys, h, a, ha => by
    rw [List.mapM_cons] at h
    cases h1 : f b with
    | none => simp [h1] at h
    | some y =>
      cases h2 : l.mapM f with
      | none => simp [h1, h2] at h
      | some zs =>
        rcases List.mem_cons.1 ha with rfl | ha
        · exact ⟨y, h1⟩
        · exact mapM_at l zs h2 a ha

theorem int_open {k : IntKind} {base : Nat} {sp : Nat → Bool} {held : Bool} {t : TypeId} (hu : P.underlying t = some (.int k)) {fuel : Nat} {cs : List Value} {x : DataW H × List MemPlace} (hx : DataW.trod enc P W base sp held fuel t cs = some x) :
    ∃ n, cs = [.int k n] ∧ (Lit.int k n).wf = true := by
  obtain ⟨n, e, _, hw⟩ := DataW.trod_int hu hx
  exact ⟨n, e, hw⟩

theorem allK_open {k : IntKind} {base : Nat} {sp : Nat → Bool} {held : Bool} : ∀ (f : Nat) (t : TypeId), allK P k f t = true → ∀ (fuel : Nat) (cs : List Value) (x : DataW H × List MemPlace), DataW.trod enc P W base sp held fuel t cs = some x →
    cs.length = P.cellsOf t ∧ ∀ i, i < cs.length → ∃ n, cs[i]? = some (.int k n) ∧ (Lit.int k n).wf = true
  | 0, _, h, _, _, _, _ => by simp [allK] at h
  | f + 1, t, h, 0, cs, x, hx => by simp [DataW.trod] at hx
  | f + 1, t, h, fuel + 1, cs, x, hx => by
    unfold allK at h
    split at h
    · rename_i k' hu
      simp only [Bool.and_eq_true, decide_eq_true_eq] at h
      obtain ⟨rfl, hc⟩ := h
      obtain ⟨n, rfl, hw⟩ := int_open hu hx
      refine ⟨by rw [hc]; rfl, fun i hi => ?_⟩
      obtain rfl : i = 0 := by simpa using hi
      exact ⟨n, rfl, hw⟩
    · rename_i fs hu
      simp only [Bool.and_eq_true] at h
      obtain ⟨ha, hcov⟩ := h
      unfold DataW.trod at hx
      rw [hu] at hx
      simp only at hx
      split at hx
      case isFalse => cases hx
      rename_i hl
      refine ⟨hl, fun i hi => ?_⟩
      obtain ⟨xs, hxs, _⟩ := Option.map_eq_some_iff.1 hx
      have hci := List.all_eq_true.1 hcov i (by simp; omega)
      obtain ⟨fd, hfd, hin⟩ := List.any_eq_true.1 hci
      simp only [Bool.and_eq_true, decide_eq_true_eq] at hin
      obtain ⟨y, hy⟩ := mapM_at _ _ hxs fd hfd
      obtain ⟨hl', hat⟩ := allK_open f fd.type (List.all_eq_true.1 ha fd hfd) fuel _ y hy
      obtain ⟨n, hn, hw⟩ := hat (i - fd.offset) (by rw [hl']; omega)
      rw [piece hin.1 hin.2] at hn
      exact ⟨n, hn, hw⟩
    · rename_i m e hu
      simp only [Bool.and_eq_true] at h
      obtain ⟨ha, hcov⟩ := h
      unfold DataW.trod at hx
      rw [hu] at hx
      simp only at hx
      split at hx
      case isFalse => cases hx
      rename_i hl
      refine ⟨hl, fun i hi => ?_⟩
      obtain ⟨xs, hxs, _⟩ := Option.map_eq_some_iff.1 hx
      have hci := List.all_eq_true.1 hcov i (by simp; omega)
      obtain ⟨j, hj, hin⟩ := List.any_eq_true.1 hci
      simp only [Bool.and_eq_true, decide_eq_true_eq] at hin
      obtain ⟨y, hy⟩ := mapM_at _ _ hxs j hj
      obtain ⟨hl', hat⟩ := allK_open f e ha fuel _ y hy
      obtain ⟨n, hn, hw⟩ := hat (i - j * P.cellsOf e) (by rw [hl']; omega)
      rw [piece hin.1 hin.2] at hn
      exact ⟨n, hn, hw⟩
    · cases h

theorem ints_of {k : IntKind} : ∀ (cs : List Value), (∀ i, i < cs.length → ∃ n, cs[i]? = some (.int k n) ∧ (Lit.int k n).wf = true) → ∃ l : List Int, cs = l.map (Value.int k) ∧ ∀ n ∈ l, (Lit.int k n).wf = true
  | [], _ => ⟨[], rfl, by simp⟩
  | c :: cs, h => by
    obtain ⟨n, hn, hw⟩ := h 0 (by simp)
    obtain ⟨l, rfl, hl⟩ := ints_of cs (fun i hi => by simpa using h (i + 1) (by simpa using hi))
    simp only [List.getElem?_cons_zero, Option.some.injEq] at hn
    subst hn
    refine ⟨n :: l, rfl, fun m hm => ?_⟩
    rcases List.mem_cons.1 hm with rfl | hm
    · exact hw
    · exact hl m hm

/-- A struct or array by value, of integers of one kind: its integers. -/
theorem agg_ints {k : IntKind} {base : Nat} {sp : Nat → Bool} {held : Bool} {f : Nat} {t : TypeId} (ha : allK P k f t = true) (hc : P.cellsOf t ≠ 1) {v : Value} {d : DataW H} {ps : List MemPlace} (h : DataW.Trod enc P W base sp held t v d ps) :
    ∃ l : List Int, v = .agg (l.map (Value.int k)).toArray ∧ l.length = P.cellsOf t ∧ ∀ n ∈ l, (Lit.int k n).wf = true := by
  obtain ⟨fuel, hf⟩ := h
  obtain ⟨hl, hat⟩ := allK_open f t ha fuel _ _ hf
  obtain ⟨l, hcs, hw⟩ := ints_of _ hat
  have hlen : l.length = P.cellsOf t := by rw [← hl, hcs]; simp
  refine ⟨l, ?_, hlen, hw⟩
  unfold Value.cells at hcs hl
  split at hcs
  · rename_i cs
    rw [← hcs]
  · rename_i hna
    exfalso
    apply hc
    rw [← hlen]
    have := congrArg List.length hcs
    simpa using this.symm

/-- A slice of bytes that came in. -/
theorem row_bytes {e : TypeId} {t : TypeId} {r : Reach} {b0 : Nat} (ht : P.underlying t = some (.slice e)) (he : P.underlying e = some (.int .u8)) (hc : P.cellsOf e = 1) {v : Value} {d : DataW H} {ps : List MemPlace} (hval : Value.okWide P W r b0 t v)
    (h : DataW.Trod enc P W 0 (fun _ => true) true t v d ps) :
    ∃ (a : Option Addr) (l : List Int) (cap : Nat), v = .slice a l.length cap ∧ URow W a l ∧ Bytes l := by
  obtain ⟨fuel, hf⟩ := h
  obtain ⟨a0, len0, cap0, rfl⟩ := Go.WideShapes.okWide_slice ht hval
  rcases open_ints ht he hc hf with ⟨hcs, _⟩ | ⟨a, len, cap, zs, hcs, _, hle, hmax, hlen, _, hcell, hwf⟩
  · have hcs' : [Value.slice a0 len0 cap0] = [.slice none 0 0] := by simpa [Value.cells] using hcs
    cases hcs'
    exact ⟨none, [], 0, rfl, RowOf.nil, fun x hx => by cases hx⟩
  · have hcs' : [Value.slice a0 len0 cap0] = [.slice (some a) len cap] := by simpa [Value.cells] using hcs
    cases hcs'
    simp only [if_true] at hlen
    have hl : (zs.take len0).length = len0 := by simp; omega
    refine ⟨some a, zs.take len0, cap0, by rw [hl], ⟨by rw [hl]; exact Nat.le_trans hle hmax, fun j x hx => ?_⟩, fun x hx => bounds_u8 (hwf x (List.mem_of_mem_take hx))⟩
    have hj : j < len0 := by
      have := (List.getElem?_eq_some_iff.1 hx).1
      omega
    have hz : zs[j]? = some x := by
      rw [List.getElem?_take_of_lt hj] at hx
      exact hx
    have h0 := hcell 0 (by omega)
    rw [show a.add 0 = a by simp [Addr.add]] at h0
    have hb := World.block_lt_of_cell? W _ h0
    have hs : a.spot = none := by
      cases hsp : a.spot with
      | none => rfl
      | some q =>
        exfalso
        unfold World.cell? at h0
        split at h0
        · simp [hsp] at h0
        · cases h0
    obtain ⟨b, off, sp⟩ := a
    simp only at hs
    subst hs
    have h1 := hcell j (by omega)
    have e1 : zs.getD j 0 = x := by simp [hz]
    rw [e1, show (Addr.mk b off none).add j = ⟨b, off + j, none⟩ by unfold Addr.add; split <;> simp_all] at h1
    refine ⟨b, off, rfl, hb, fun i v hv => ?_⟩
    have hi : i = 0 := by
      have := (List.getElem?_eq_some_iff.1 hv).1
      simpa [encU] using this
    subst hi
    simp [encU] at hv
    subst hv
    simpa using h1

end

end Go.Proofs.Ytpfnlldnddjbmaa

namespace Go.Proofs.Ytpfnlldnddjbmaa
set_option linter.unusedVariables false
set_option linter.unusedSimpArgs false
open Go.RowKit Go.ChangeShapes

theorem list_of {α : Type} (p : Nat → α → Prop) : ∀ n, (∀ j, j < n → ∃ x, p j x) → ∃ l : List α, l.length = n ∧ ∀ j x, l[j]? = some x → p j x
  | 0, _ => ⟨[], rfl, fun j x h => by simp at h⟩
  | n + 1, h => by
    obtain ⟨l, hl, hp⟩ := list_of p n (fun j hj => h j (by omega))
    obtain ⟨x, hx⟩ := h n (by omega)
    refine ⟨l ++ [x], by simp [hl], fun j y hy => ?_⟩
    by_cases hj : j < l.length
    · rw [List.getElem?_append_left hj] at hy
      exact hp j y hy
    · rw [List.getElem?_append_right (by omega)] at hy
      have h1 := (List.getElem?_eq_some_iff.1 hy).1
      simp at h1
      obtain rfl : j = n := by omega
      simp [hl] at hy
      subst hy
      exact hx

section
variable {H : Type} {enc : TypeId × Value → H} {P : Program} {W : World}

/-- A slice of arrays of integers of one kind. -/
theorem row_flat {α : Type} {en : α → List Value} {G : α → Prop} {e t : TypeId} {k : IntKind} {f sz fuel : Nat} {cs : List Value} {x : DataW H × List MemPlace} (ht : P.underlying t = some (.slice e)) (ha : allK P k f e = true) (hc : P.cellsOf e = sz) (h0 : 0 < sz)
    (hmk : ∀ l : List Int, l.length = sz → (∀ n ∈ l, (Lit.int k n).wf = true) → ∃ y : α, en y = l.map (Value.int k) ∧ G y)
    (hx : DataW.trod enc P W 0 (fun _ => true) true fuel t cs = some x) :
    ∃ (a : Option Addr) (l : List α) (cap : Nat), cs = [.slice a l.length cap] ∧ RowOf sz en W a l ∧ ∀ v ∈ l, G v := by
  rcases DataW.trod_slice ht hx with ⟨h, _⟩ | ⟨a, len, cap, elems, rest, n, _, rfl, _, hb, hl, hm, hlen, hel, _, _⟩
  · exact ⟨none, [], 0, h, RowOf.nil, fun v hv => by cases hv⟩
  have hj : ∀ j, j < len → ∃ y : α, G y ∧ ∃ l : List Int, l.length = sz ∧ en y = l.map (Value.int k) ∧ ∀ i, i < sz → W.cell? ((a.add (j * sz)).add i) = (l.map (Value.int k))[i]? := by
    intro j hj
    have h1 := hel j hj
    rw [List.getElem?_eq_getElem (by omega)] at h1
    obtain ⟨cs', hcs, hy⟩ := Option.bind_eq_some_iff.1 h1
    obtain ⟨hl', hat⟩ := allK_open f e ha _ _ _ hy
    obtain ⟨l, hcl, hw⟩ := ints_of _ hat
    have hll : l.length = sz := by rw [← hc, ← hl', hcl]; simp
    obtain ⟨y, hy1, hy2⟩ := hmk l hll hw
    refine ⟨y, hy2, l, hll, hy1, fun i hi => ?_⟩
    have := (World.cells?_some hcs).2.2 i (by omega)
    rw [hc, hcl] at this
    exact this
  obtain ⟨l, hlen', hp⟩ := list_of _ len hj
  refine ⟨some a, l, cap, by rw [hlen'], ⟨?_, fun j y hy => ?_⟩, fun v hv => ?_⟩
  · rw [hlen']
    have : maxLen ≤ 9223372036854775807 := by decide
    omega
  · obtain ⟨_, li, hli, hen, hcell⟩ := hp j y hy
    have z0 := hcell 0 h0
    have hi0 : (li.map (Value.int k))[0]? = some (.int k (li[0]'(by omega))) := by simp [List.getElem?_eq_getElem (show 0 < li.length by omega)]
    rw [hi0, show (a.add (j * sz)).add 0 = a.add (j * sz) by simp [Addr.add]] at z0
    have hs : a.spot = none := by
      cases hsp : a.spot with
      | none => rfl
      | some q =>
        exfalso
        have hj0 : j < len := by have := (List.getElem?_eq_some_iff.1 hy).1; omega
        obtain ⟨_, _, li0, hli0, _, hc0⟩ := hj 0 (by omega)
        have z1 := hc0 0 h0
        have hi1 : (li0.map (Value.int k))[0]? = some (.int k (li0[0]'(by omega))) := by simp [List.getElem?_eq_getElem (show 0 < li0.length by omega)]
        rw [hi1, show (a.add (0 * sz)).add 0 = a by simp [Addr.add]] at z1
        unfold World.cell? at z1
        split at z1
        · simp [hsp] at z1
        · cases z1
    obtain ⟨b, off, sp⟩ := a
    simp only at hs
    subst hs
    refine ⟨b, off, rfl, ?_, fun i v hv => ?_⟩
    · have := World.block_lt_of_cell? W _ z0
      rw [WideShapes.add_plain] at this
      exact this
    · have hi : i < sz := by
        have := (List.getElem?_eq_some_iff.1 hv).1
        rw [hen] at this
        simpa [hli] using this
      have := hcell i hi
      rw [WideShapes.add_plain, WideShapes.add_plain, ← hen, hv] at this
      exact this
  · obtain ⟨j, hjv⟩ := List.getElem?_of_mem hv
    exact (hp j v hjv).1

/-- A struct of three slices: each by itself. -/
theorem struct3 {t t0 t1 t2 : TypeId} {fs : Array Field} {fuel : Nat} {cs : List Value} {x : DataW H × List MemPlace} (hu : P.underlying t = some (.struct fs)) (ct : P.cellsOf t = 3) (c0 : P.cellsOf t0 = 1) (c1 : P.cellsOf t1 = 1) (c2 : P.cellsOf t2 = 1)
    (m0 : ∃ g ∈ fs.toList, g.type = t0 ∧ g.offset = 0) (m1 : ∃ g ∈ fs.toList, g.type = t1 ∧ g.offset = 1) (m2 : ∃ g ∈ fs.toList, g.type = t2 ∧ g.offset = 2)
    (hx : DataW.trod enc P W 0 (fun _ => true) true fuel t cs = some x) :
    ∃ s0 s1 s2 n x0 x1 x2, cs = [s0, s1, s2] ∧ DataW.trod enc P W 0 (fun _ => true) true n t0 [s0] = some x0 ∧ DataW.trod enc P W 0 (fun _ => true) true n t1 [s1] = some x1 ∧ DataW.trod enc P W 0 (fun _ => true) true n t2 [s2] = some x2 := by
  cases fuel with
  | zero => simp [DataW.trod] at hx
  | succ n =>
    unfold DataW.trod at hx
    rw [hu] at hx
    simp only at hx
    split at hx
    case isFalse => cases hx
    rename_i hl
    obtain ⟨xs, hxs, _⟩ := Option.map_eq_some_iff.1 hx
    rw [ct] at hl
    obtain ⟨s0, s1, s2, rfl⟩ : ∃ s0 s1 s2, cs = [s0, s1, s2] := by
      match cs, hl with
      | [s0, s1, s2], _ => exact ⟨s0, s1, s2, rfl⟩
    obtain ⟨g0, hg0, e0, o0⟩ := m0
    obtain ⟨g1, hg1, e1, o1⟩ := m1
    obtain ⟨g2, hg2, e2, o2⟩ := m2
    obtain ⟨y0, hy0⟩ := mapM_at _ _ hxs g0 hg0
    obtain ⟨y1, hy1⟩ := mapM_at _ _ hxs g1 hg1
    obtain ⟨y2, hy2⟩ := mapM_at _ _ hxs g2 hg2
    rw [e0, o0, c0] at hy0
    rw [e1, o1, c1] at hy1
    rw [e2, o2, c2] at hy2
    exact ⟨s0, s1, s2, n, y0, y1, y2, rfl, hy0, hy1, hy2⟩

end


/-- The pieces of a struct. -/
theorem struct_piece {H : Type} {enc : TypeId × Value → H} {P : Program} {W : World} {t : TypeId} {fs : Array Field} {fuel : Nat} {cs : List Value} {x : DataW H × List MemPlace} (hu : P.underlying t = some (.struct fs))
    (hx : DataW.trod enc P W 0 (fun _ => true) true fuel t cs = some x) :
    cs.length = P.cellsOf t ∧ ∃ n, ∀ g ∈ fs.toList, ∃ y, DataW.trod enc P W 0 (fun _ => true) true n g.type ((cs.drop g.offset).take (P.cellsOf g.type)) = some y := by
  cases fuel with
  | zero => simp [DataW.trod] at hx
  | succ n =>
    unfold DataW.trod at hx
    rw [hu] at hx
    simp only at hx
    split at hx
    case isFalse => cases hx
    rename_i hl
    obtain ⟨xs, hxs, _⟩ := Option.map_eq_some_iff.1 hx
    exact ⟨hl, n, fun g hg => mapM_at _ _ hxs g hg⟩

end Go.Proofs.Ytpfnlldnddjbmaa

namespace Go.Proofs.Ytpfnlldnddjbmaa
set_option linter.unusedVariables false
set_option linter.unusedSimpArgs false
open Go.RowKit Go.ChangeShapes

set_option maxRecDepth 100000 in
theorem sheet_open {H : Type} {enc : TypeId × Value → H} {W : World} {fuel : Nat} {cs : List Value} {x : DataW H × List MemPlace} (hx : DataW.trod enc Try.prog W 0 (fun _ => true) true fuel 69 cs = some x) :
    ∃ (p0 p1 p2 p3 h f0 f1 f2 f3 : Int) (o : Bool) (c0 c1 w0 w1 w2 w3 w4 : Int), cs = [.int .u8 p0, .int .u8 p1, .int .u8 p2, .int .u8 p3, .int .u8 h, .int .u8 f0, .int .u8 f1, .int .u8 f2, .int .u8 f3, .bool o, .int .u8 c0, .int .u8 c1, .int .u8 w0, .int .u8 w1, .int .u8 w2, .int .u8 w3, .int .u8 w4] ∧ By p0 ∧ By p1 ∧ By p2 ∧ By p3 ∧ By h ∧ By f0 ∧ By f1 ∧ By f2 ∧ By f3 ∧ By c0 ∧ By c1 ∧ By w0 ∧ By w1 ∧ By w2 ∧ By w3 ∧ By w4 := by
  obtain ⟨hl, n, hp⟩ := struct_piece Try.underlying69 hx
  rw [show Try.prog.cellsOf 69 = 17 from by kernel_rfl] at hl
  obtain ⟨d0, d1, d2, d3, d4, d5, d6, d7, d8, d9, d10, d11, d12, d13, d14, d15, d16, rfl⟩ : ∃ d0 d1 d2 d3 d4 d5 d6 d7 d8 d9 d10 d11 d12 d13 d14 d15 d16, cs = [d0, d1, d2, d3, d4, d5, d6, d7, d8, d9, d10, d11, d12, d13, d14, d15, d16] := by
    match cs, hl with
    | [d0, d1, d2, d3, d4, d5, d6, d7, d8, d9, d10, d11, d12, d13, d14, d15, d16], _ => exact ⟨d0, d1, d2, d3, d4, d5, d6, d7, d8, d9, d10, d11, d12, d13, d14, d15, d16, rfl⟩
  obtain ⟨y0, h0⟩ := hp _ List.mem_cons_self
  obtain ⟨y1, h1⟩ := hp _ (List.mem_cons_of_mem _ List.mem_cons_self)
  obtain ⟨y2, h2⟩ := hp _ (List.mem_cons_of_mem _ (List.mem_cons_of_mem _ List.mem_cons_self))
  obtain ⟨y3, h3⟩ := hp _ (List.mem_cons_of_mem _ (List.mem_cons_of_mem _ (List.mem_cons_of_mem _ List.mem_cons_self)))
  obtain ⟨y4, h4⟩ := hp _ (List.mem_cons_of_mem _ (List.mem_cons_of_mem _ (List.mem_cons_of_mem _ (List.mem_cons_of_mem _ List.mem_cons_self))))
  obtain ⟨y5, h5⟩ := hp _ (List.mem_cons_of_mem _ (List.mem_cons_of_mem _ (List.mem_cons_of_mem _ (List.mem_cons_of_mem _ (List.mem_cons_of_mem _ List.mem_cons_self)))))
  have g0 : DataW.trod enc Try.prog W 0 (fun _ => true) true n 65 [d0, d1, d2, d3] = some y0 := by
    have e : Try.prog.cellsOf 65 = 4 := by kernel_rfl
    simpa only [List.drop_succ_cons, List.drop_zero, e, List.take_succ_cons, List.take_zero] using h0
  have g1 : DataW.trod enc Try.prog W 0 (fun _ => true) true n 5 [d4] = some y1 := by
    have e : Try.prog.cellsOf 5 = 1 := by kernel_rfl
    simpa only [List.drop_succ_cons, List.drop_zero, e, List.take_succ_cons, List.take_zero] using h1
  have g2 : DataW.trod enc Try.prog W 0 (fun _ => true) true n 65 [d5, d6, d7, d8] = some y2 := by
    have e : Try.prog.cellsOf 65 = 4 := by kernel_rfl
    simpa only [List.drop_succ_cons, List.drop_zero, e, List.take_succ_cons, List.take_zero] using h2
  have g3 : DataW.trod enc Try.prog W 0 (fun _ => true) true n 4 [d9] = some y3 := by
    have e : Try.prog.cellsOf 4 = 1 := by kernel_rfl
    simpa only [List.drop_succ_cons, List.drop_zero, e, List.take_succ_cons, List.take_zero] using h3
  have g4 : DataW.trod enc Try.prog W 0 (fun _ => true) true n 66 [d10, d11] = some y4 := by
    have e : Try.prog.cellsOf 66 = 2 := by kernel_rfl
    simpa only [List.drop_succ_cons, List.drop_zero, e, List.take_succ_cons, List.take_zero] using h4
  have g5 : DataW.trod enc Try.prog W 0 (fun _ => true) true n 67 [d12, d13, d14, d15, d16] = some y5 := by
    have e : Try.prog.cellsOf 67 = 5 := by kernel_rfl
    simpa only [List.drop_succ_cons, List.drop_zero, e, List.take_succ_cons, List.take_zero] using h5
  obtain ⟨_, hat0⟩ := allK_open (k := .u8) 5 65 (by kernel_rfl) _ _ _ g0
  obtain ⟨l0, e0, b0⟩ := ints_of _ hat0
  obtain ⟨p0, p1, p2, p3, rfl⟩ : ∃ p0 p1 p2 p3, l0 = [p0, p1, p2, p3] := by
    have hl4 : l0.length = 4 := by
      have := congrArg List.length e0
      simpa using this.symm
    match l0, hl4 with
    | [p0, p1, p2, p3], _ => exact ⟨p0, p1, p2, p3, rfl⟩
  obtain ⟨h, e1, b1⟩ := int_open Try.underlying5 g1
  obtain ⟨_, hat2⟩ := allK_open (k := .u8) 5 65 (by kernel_rfl) _ _ _ g2
  obtain ⟨l2, e2, b2⟩ := ints_of _ hat2
  obtain ⟨f0, f1, f2, f3, rfl⟩ : ∃ f0 f1 f2 f3, l2 = [f0, f1, f2, f3] := by
    have hl4 : l2.length = 4 := by
      have := congrArg List.length e2
      simpa using this.symm
    match l2, hl4 with
    | [f0, f1, f2, f3], _ => exact ⟨f0, f1, f2, f3, rfl⟩
  obtain ⟨o, e3, _⟩ := DataW.trod_bool Try.underlying4 g3
  obtain ⟨_, hat4⟩ := allK_open (k := .u8) 5 66 (by kernel_rfl) _ _ _ g4
  obtain ⟨l4, e4, b4⟩ := ints_of _ hat4
  obtain ⟨c0, c1, rfl⟩ : ∃ c0 c1, l4 = [c0, c1] := by
    have hl4 : l4.length = 2 := by
      have := congrArg List.length e4
      simpa using this.symm
    match l4, hl4 with
    | [c0, c1], _ => exact ⟨c0, c1, rfl⟩
  obtain ⟨_, hat5⟩ := allK_open (k := .u8) 5 67 (by kernel_rfl) _ _ _ g5
  obtain ⟨l5, e5, b5⟩ := ints_of _ hat5
  obtain ⟨w0, w1, w2, w3, w4, rfl⟩ : ∃ w0 w1 w2 w3 w4, l5 = [w0, w1, w2, w3, w4] := by
    have hl4 : l5.length = 5 := by
      have := congrArg List.length e5
      simpa using this.symm
    match l5, hl4 with
    | [w0, w1, w2, w3, w4], _ => exact ⟨w0, w1, w2, w3, w4, rfl⟩
  simp only [List.map_cons, List.map_nil, List.cons.injEq, and_true] at e0 e1 e2 e3 e4 e5
  obtain ⟨rfl, rfl, rfl, rfl⟩ := e0
  subst e1
  obtain ⟨rfl, rfl, rfl, rfl⟩ := e2
  subst e3
  obtain ⟨rfl, rfl⟩ := e4
  obtain ⟨rfl, rfl, rfl, rfl, rfl⟩ := e5
  exact ⟨p0, p1, p2, p3, h, f0, f1, f2, f3, o, c0, c1, w0, w1, w2, w3, w4, rfl, bounds_u8 (b0 p0 (by simp)), bounds_u8 (b0 p1 (by simp)), bounds_u8 (b0 p2 (by simp)), bounds_u8 (b0 p3 (by simp)), bounds_u8 b1, bounds_u8 (b2 f0 (by simp)), bounds_u8 (b2 f1 (by simp)), bounds_u8 (b2 f2 (by simp)), bounds_u8 (b2 f3 (by simp)), bounds_u8 (b4 c0 (by simp)), bounds_u8 (b4 c1 (by simp)), bounds_u8 (b5 w0 (by simp)), bounds_u8 (b5 w1 (by simp)), bounds_u8 (b5 w2 (by simp)), bounds_u8 (b5 w3 (by simp)), bounds_u8 (b5 w4 (by simp))⟩

end Go.Proofs.Ytpfnlldnddjbmaa

namespace Go.Proofs.Ytpfnlldnddjbmaa
set_option linter.unusedVariables false
set_option linter.unusedSimpArgs false
open Go.RowKit

theorem topOf_two (o : Bool) (f0 f1 : Int) (h0 : By f0) (h1 : By f1) : ∃ t0 t1, topOf o f0 f1 = [t0, t1] ∧ (0 ≤ t0 ∧ t0 ≤ 255) ∧ (0 ≤ t1 ∧ t1 ≤ 255) ∧ (o = true → t0 = 0 ∧ t1 = 0) ∧ (o = true ∨ (t0 = f0 ∧ t1 = f1)) := by
  cases o with
  | false => exact ⟨f0, f1, rfl, h0, h1, (fun h => by cases h), .inr ⟨rfl, rfl⟩⟩
  | true => exact ⟨0, 0, rfl, by omega, by omega, fun _ => ⟨rfl, rfl⟩, .inl rfl⟩

theorem wide_of {w0 w1 w2 w3 w4 : Int} (h0 : By w0) (h1 : By w1) (h2 : By w2) (h3 : By w3) (h4 : By w4) : Wide (w0 % 4) (w1 % 4) (w2 % 4) (w3 % 6) (w4 % 6) := by
  refine ⟨⟨?_, ?_⟩, ⟨?_, ?_⟩, ⟨?_, ?_⟩, ⟨?_, ?_⟩, ⟨?_, ?_⟩⟩ <;> omega

set_option maxRecDepth 100000 in
theorem folds_body (p0 p1 p2 p3 h f0 f1 f2 f3 : Int) (o : Bool) (c0 c1 w0 w1 w2 w3 w4 : Int) (hp0 : By p0) (hp1 : By p1) (hp2 : By p2) (hp3 : By p3) (hh : By h) (hf0 : By f0) (hf1 : By f1) (hf2 : By f2) (hf3 : By f3) (hc0 : By c0) (hc1 : By c1) (hw0 : By w0) (hw1 : By w1) (hw2 : By w2) (hw3 : By w3) (hw4 : By w4) (wh by0 : Int) (hwh : By wh) (hby : By by0) (w : World) :
    Calls Try.prog 8 #[.agg #[.int .u8 p0, .int .u8 p1, .int .u8 p2, .int .u8 p3, .int .u8 h, .int .u8 f0, .int .u8 f1, .int .u8 f2, .int .u8 f3, .bool o, .int .u8 c0, .int .u8 c1, .int .u8 w0, .int .u8 w1, .int .u8 w2, .int .u8 w3, .int .u8 w4], .int .u8 wh, .int .u8 by0] w fun e w' => e = .returned (.bool true) ∧ Gr w w' := by
  obtain ⟨u0, u1, hu, _⟩ := topOf_two o f0 f1 hf0 hf1
  obtain ⟨t0, t1, ht, ta, tb, tc, td⟩ := topOf_two o f2 f3 hf2 hf3
  have S : Sheet4 (60 + p0) (60 + p1) (60 + p0) (60 + p1) t0 t1 f2 f3 (40 + h) o := ⟨⟨by have := hp0.1; omega, by have := hp0.2; omega⟩, ⟨by have := hp1.1; omega, by have := hp1.2; omega⟩, ⟨by have := hp0.1; omega, by have := hp0.2; omega⟩, ⟨by have := hp1.1; omega, by have := hp1.2; omega⟩, ta, tb, hf2, hf3, ⟨by have := hh.1; omega, by have := hh.2; omega⟩, tc⟩
  have K : Cal4 (1500 + 20 * c0) (1500 + 20 * c0 + 2 * c1) := ⟨by have := hc0.1; omega, by have := hc1.1; omega, by have := hc0.2; have := hc1.2; omega⟩
  have Q := wide_of hw0 hw1 hw2 hw3 hw4
  exact folds_core _ _ _ _ _ _ _ _ _ _ _ _ _ _ _ _ _ wh by0 hwh hby (60 + p0) (60 + p1) (60 + p2) (60 + p3) u0 u1 t0 t1 f2 f3 (40 + h) o (1500 + 20 * c0) (1500 + 20 * c0 + 2 * c1) (wishOf (60 + p0) (60 + p1) f2 f3 (40 + h) o (1500 + 20 * c0) (1500 + 20 * c0 + 2 * c1) (w0 % 4) (w1 % 4) (w2 % 4) (w3 % 6) (w4 % 6))
    (Lib.hid S) (Lib.hid K) (Lib.hid (wishOf_ok Q K.2.1)) (Lib.hid ⟨(arH_bd (by decide)).1, (arH_bd (by decide)).2, (arH_bd (by decide)).1, (arH_bd (by decide)).2⟩)
    (Lib.hid (fun v => (sheetBlank_any p0 p1 p2 p3 h f0 f1 f2 f3 o c0 c1 w0 w1 w2 w3 w4 hp0 hp1 hp2 hp3 hh hf0 hf1 hf2 hf3 v).mono (fun e w2 H => by rw [hu] at H; exact H.new)))
    (Lib.hid (fun pa ta ba pc tc bc v h1 h2 h3 => twin_at (60 + p0) (60 + p1) (60 + p2) (60 + p3) u0 u1 f2 f3 t0 t1 (40 + h) o ht pa ta ba pc tc bc v h1 h2 h3))
    (Lib.hid (fun v => sheetCal_any p0 p1 p2 p3 h f0 f1 f2 f3 o c0 c1 w0 w1 w2 w3 w4 hc0 hc1 v))
    (Lib.hid (fun pa ta ba pc tc bc v h1 h2 h3 => wished_any p0 p1 p2 p3 h f0 f1 f2 f3 o c0 c1 w0 w1 w2 w3 w4 hw0 hw1 hw2 hw3 hw4 (60 + p0) (60 + p1) (60 + p0) (60 + p1) t0 t1 f2 f3 (40 + h) o (1500 + 20 * c0) (1500 + 20 * c0 + 2 * c1) (Lib.hid S) (Lib.hid K) pa ta ba pc tc bc v h1 h2 h3))
    (Lib.hid (folds_close S td K Q)) (Lib.hid (fun m m0 m1 => folds_long2 S td K Q m0 m1)) (Lib.hid (fun m m0 m1 => folds_long3 S td K Q m0 m1)) w

end Go.Proofs.Ytpfnlldnddjbmaa
