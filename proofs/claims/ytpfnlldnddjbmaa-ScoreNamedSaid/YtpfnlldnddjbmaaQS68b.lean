/- ScoreNamed's body. (Made by gen_s67.py.) A law's end: it returned true and the world only grew. And: what an argument is that is made of integers of one kind. What an argument is that is a slice of small arrays of integers; a struct of three slices; the pieces of a struct. A sheet that comes in (chapter 2). (Made by gen_s65.py.) What the bytes of a sheet say (chapter 2). (Made by gen_s68.py.) ScoreNamed for sheets of bytes. (Made by gen_s68.py.) -/
import Derived.Test.YtpfnlldnddjbmaaQS68a
import Derived.Test.YtpfnlldnddjbmaaQS32e
import Derived.ProofKit
import Derived.OpenShut
import Derived.Test.YtpfnlldnddjbmaaQS32a
import Derived.ChangeSame
import Derived.Carry
namespace Go.Proofs.Ytpfnlldnddjbmaa
set_option linter.unusedVariables false
set_option linter.unusedSimpArgs false
open Go.RowKit

set_option maxRecDepth 100000 in
theorem two_0 (a b : Value) (w : World) : (Instr.index 45 (.agg #[a, b]) (.int .i64 0)).run Try.prog w = .ok a w := by kernel_rfl

theorem two_1 (a b : Value) (w : World) : (Instr.index 45 (.agg #[a, b]) (.int .i64 1)).run Try.prog w = .ok b w := by kernel_rfl
attribute [local go_sem] two_0 two_1

/-- A row of bad checks, at element i. -/
theorem BRow.at {w : World} {a : Option Addr} {l : List (Int × Int)} (h : BRow w a l) {i : Nat} (hi : i < l.length) : ∃ b off k c, a = some ⟨b, off, none⟩ ∧ l[i]? = some (k, c) ∧ b < w.heap.size ∧ w.cell? ⟨b, off + i * 2, none⟩ = some (.int .i64 k) ∧ w.cell? ⟨b, off + i * 2 + 1, none⟩ = some (.int .i64 c) := by
 obtain ⟨x, hx⟩ : ∃ x, l[i]? = some x := ⟨l[i], by simp [hi]⟩
 obtain ⟨b, off, ha, hb, hc⟩ := h.2 i x hx
 exact ⟨b, off, x.1, x.2, ha, hx, hb, hc 0 _ rfl, hc 1 _ rfl⟩

set_option maxRecDepth 100000 in
set_option maxHeartbeats 16000000 in
theorem named_core (x0 x1 x2 x3 x4 x5 x6 x7 x8 x9 x10 x11 x12 x13 x14 x15 x16 y0 y1 y2 y3 y4 y5 y6 y7 y8 y9 y10 y11 y12 y13 y14 y15 y16 : Value) (a0 a1 a2 a3 t0 t1 s0 s1 hei : Int) (o : Bool) (q0 q1 q2 q3 e0 e1 d0 d1 z0 z1 hei' : Int) (o' : Bool) (cl ch cl' ch' : Int) (W : Wi)
  (HS : Hid (Sheet4 a0 a1 a2 a3 t0 t1 s0 s1 hei o)) (HK : Hid (Cal4 cl ch)) (HW : Hid W.ok)
  (SB : Hid (∀ v, Calls Try.prog 39 #[.agg #[x0, x1, x2, x3, x4, x5, x6, x7, x8, x9, x10, x11, x12, x13, x14, x15, x16]] v (BlankNew a0 a1 a2 a3 t0 t1 s0 s1 hei o v)))
  (SC : Hid (∀ v, Calls Try.prog 40 #[.agg #[x0, x1, x2, x3, x4, x5, x6, x7, x8, x9, x10, x11, x12, x13, x14, x15, x16]] v fun e w' => e = .returned (.agg #[.int .i64 cl, .int .i64 ch]) ∧ Gr v w'))
  (SB' : Hid (∀ v, Calls Try.prog 39 #[.agg #[y0, y1, y2, y3, y4, y5, y6, y7, y8, y9, y10, y11, y12, y13, y14, y15, y16]] v (BlankNew q0 q1 q2 q3 e0 e1 z0 z1 hei' o' v)))
  (TW : Hid (∀ pa ta ba pc tc bc v, IRow v pa [q0, q1, q2, q3] → IRow v ta [e0, e1] → IRow v ba [z0, z1] → Calls Try.prog 38 #[.agg #[.int .i64 30, .slice pa 4 pc, .int .i64 hei', .slice ta 2 tc, .slice ba 2 bc, .int .i64 9, .bool o']] v (TwinAt q0 q1 d0 d1 hei' o' ba bc v)))
  (SC' : Hid (∀ v, Calls Try.prog 40 #[.agg #[y0, y1, y2, y3, y4, y5, y6, y7, y8, y9, y10, y11, y12, y13, y14, y15, y16]] v fun e w' => e = .returned (.agg #[.int .i64 cl', .int .i64 ch']) ∧ Gr v w'))
  (WI : Hid (∀ pa ta ba pc tc bc v, IRow v pa [q0, q1, q0, q1] → IRow v ta [d0, d1] → IRow v ba [z0, z1] → Calls Try.prog 41 #[.agg #[y0, y1, y2, y3, y4, y5, y6, y7, y8, y9, y10, y11, y12, y13, y14, y15, y16], .agg #[.int .i64 30, .slice pa 4 pc, .int .i64 hei', .slice ta 2 tc, .slice ba 2 bc, .int .i64 9, .bool o'], .agg #[.int .i64 cl', .int .i64 ch']] v fun e w' => e = .returned (.agg #[.int .i64 W.ll, .int .i64 W.lh, .int .i64 W.wl, .int .i64 W.wh, .int .i64 W.hl, .int .i64 W.hh, .int .i64 W.ol, .int .i64 W.oh, .int .i64 W.il, .int .i64 W.ih, .bool W.wo]) ∧ Gr v w')) (w : World) :
  Calls Try.prog 9 #[.agg #[x0, x1, x2, x3, x4, x5, x6, x7, x8, x9, x10, x11, x12, x13, x14, x15, x16], .agg #[y0, y1, y2, y3, y4, y5, y6, y7, y8, y9, y10, y11, y12, y13, y14, y15, y16]] w fun e w' => e = .returned (.bool true) ∧ Gr w w' := by
 have gg := (Gr.al w (.cells #[x0, x1, x2, x3, x4, x5, x6, x7, x8, x9, x10, x11, x12, x13, x14, x15, x16] 69)).tr (Gr.al _ (.cells #[y0, y1, y2, y3, y4, y5, y6, y7, y8, y9, y10, y11, y12, y13, y14, y15, y16] 69))
 have h2 := (Box.new w [x0, x1, x2, x3, x4, x5, x6, x7, x8, x9, x10, x11, x12, x13, x14, x15, x16] 69 w.heap.size rfl).keep (Gr.al _ (.cells #[y0, y1, y2, y3, y4, y5, y6, y7, y8, y9, y10, y11, y12, y13, y14, y15, y16] 69))
 have h3 := Box.new (w.alloc (.cells #[x0, x1, x2, x3, x4, x5, x6, x7, x8, x9, x10, x11, x12, x13, x14, x15, x16] 69)) [y0, y1, y2, y3, y4, y5, y6, y7, y8, y9, y10, y11, y12, y13, y14, y15, y16] 69 (w.heap.size + 1) (by simp)
 go_enter Try.func9, Try.ntmps9
 go_upto_region 1 with fail
 refine wp_abs (fun U => Gr w U ∧ Box U w.heap.size [x0, x1, x2, x3, x4, x5, x6, x7, x8, x9, x10, x11, x12, x13, x14, x15, x16] ∧ Box U (w.heap.size + 1) [y0, y1, y2, y3, y4, y5, y6, y7, y8, y9, y10, y11, y12, y13, y14, y15, y16]) ⟨gg, h2, h3⟩ ?_
 clear gg h2 h3
 rintro U ⟨gU, h2, h3⟩
 refine wp_region_own 6 [(1, 0), (3, 2)] [1] [4, 5] (by decide) (fun x => ⟨#[.agg #[x0, x1, x2, x3, x4, x5, x6, x7, x8, x9, x10, x11, x12, x13, x14, x15, x16], .agg #[y0, y1, y2, y3, y4, y5, y6, y7, y8, y9, y10, y11, y12, y13, y14, y15, y16], .pointer (some ⟨w.heap.size, 0, none⟩), .pointer (some ⟨(w.heap.size + 1), 0, none⟩), .bool false, x 4, x 5,undef,undef,undef,undef,undef,undef,undef,undef,undef,undef,undef,undef,undef,undef,undef,undef, x 0, x 1, x 2, x 3,undef,undef,undef,undef,undef,undef,undef,undef,undef,undef,undef,undef,undef,undef,undef,undef,undef,undef,undef,undef,undef,undef,undef,undef,undef,undef,undef,undef,undef,undef,undef,undef,undef,undef,undef,undef,undef,undef,undef,undef,undef,undef,undef,undef,undef,undef,undef,undef,undef,undef,undef,undef,undef,undef,undef,undef,undef,undef,undef,undef,undef,undef,undef,undef,undef,undef,undef,undef,undef,undef,undef,undef,undef,undef,undef,undef,undef,undef,undef,undef,undef,undef,undef,undef,undef,undef,undef,undef,undef,undef,undef,undef,undef,undef,undef,undef,undef,undef,undef,undef,undef,undef,undef,undef,undef,undef,undef,undef,undef,undef,undef,undef,undef,undef,undef,undef,undef,undef,undef,undef,undef,undef,undef,undef,undef,undef,undef,undef,undef,undef,undef,undef,undef,undef,undef,undef,undef,undef,undef,undef,undef,undef,undef,undef,undef,undef,undef,undef,undef,undef,undef,undef,undef,undef,undef,undef,undef,undef,undef,undef,undef,undef,undef,undef,undef,undef,undef,undef,undef,undef,undef,undef,undef,undef,undef,undef,undef,undef,undef,undef,undef,undef,undef,undef,undef,undef,undef,undef,undef,undef,undef,undef,undef,undef,undef,undef,undef,undef,undef,undef,undef,undef,undef,undef,undef,undef,undef,undef,undef,undef,undef,undef,undef,undef,undef,undef,undef,undef,undef,undef,undef,undef,undef,undef,undef,undef,undef,undef,undef,undef,undef,undef,undef,undef,undef,undef,undef,undef,undef,undef,undef,undef,undef,undef,undef,undef,undef,undef,undef,undef,undef,undef,undef,undef], []⟩) (fun _ => undef) [fun _ x => x = .agg #[x0, x1, x2, x3, x4, x5, x6, x7, x8, x9, x10, x11, x12, x13, x14, x15, x16], fun v x => ∃ ka3 kc3 ka7 kc7 ka11 kc11, x = .agg #[.int .i64 30, .slice ka3 4 kc3, .int .i64 hei, .slice ka7 2 kc7, .slice ka11 2 kc11, .int .i64 9, .bool o] ∧ (IRow v ka3 [a0, a1, a2, a3] ∧ IRow v ka7 [t0, t1] ∧ IRow v ka11 [s0, s1]), fun _ x => x = .agg #[x0, x1, x2, x3, x4, x5, x6, x7, x8, x9, x10, x11, x12, x13, x14, x15, x16], fun _ x => x = .agg #[.int .i64 cl, .int .i64 ch], fun v x => ∃ b, x = .pointer (some ⟨b, 0, none⟩) ∧ U.heap.size ≤ b ∧ Own v b [.int .i64 0, .slice none 0 0, .int .i64 0, .slice none 0 0, .slice none 0 0, .int .i64 0, .bool false], fun v x => ∃ b, x = .pointer (some ⟨b, 0, none⟩) ∧ U.heap.size ≤ b ∧ Own v b [.int .i64 0, .int .i64 0]] (by rfl) (by kernel_rfl) (by kernel_rfl) (by kernel_rfl) (stays_cons (Stays.eq _) (stays_cons ((show Stays (fun v x => ∃ ka3 kc3 ka7 kc7 ka11 kc11, x = .agg #[.int .i64 30, .slice ka3 4 kc3, .int .i64 hei, .slice ka7 2 kc7, .slice ka11 2 kc11, .int .i64 9, .bool o] ∧ (IRow v ka3 [a0, a1, a2, a3] ∧ IRow v ka7 [t0, t1] ∧ IRow v ka11 [s0, s1])) from fun v v' x g ⟨a, b, c, d, e, f, h, r1, r2, r3⟩ => ⟨a, b, c, d, e, f, h, r1.grow g, r2.grow g, r3.grow g⟩)) (stays_cons (Stays.eq _) (stays_cons (Stays.eq _) (stays_cons ((show Stays (fun v x => ∃ b, x = .pointer (some ⟨b, 0, none⟩) ∧ U.heap.size ≤ b ∧ Own v b [.int .i64 0, .slice none 0 0, .int .i64 0, .slice none 0 0, .slice none 0 0, .int .i64 0, .bool false]) from fun v v' x g ⟨b, h, l, o⟩ => ⟨b, h, l, o.keep g⟩)) (stays_cons ((show Stays (fun v x => ∃ b, x = .pointer (some ⟨b, 0, none⟩) ∧ U.heap.size ≤ b ∧ Own v b [.int .i64 0, .int .i64 0]) from fun v v' x g ⟨b, h, l, o⟩ => ⟨b, h, l, o.keep g⟩)) stays_nil)))))) ?step1 ?fin1
 case step1 => as_aux_lemma =>
  rintro i hi x v gv hd K hK
  have hi8 : i = 0 ∨ i = 1 ∨ i = 2 ∨ i = 3 ∨ i = 4 ∨ i = 5 := by omega
  rcases hi8 with rfl | rfl | rfl | rfl | rfl | rfl
  ·try dsimp only [upd, Nat.reduceBEq, cond_true, cond_false]
   refine wpOp_step rfl (fun K' hK' => ?_)
   rw [if_pos (by rfl)]
   refine wp_load_mid 69 _ rfl w.heap.size 0 (by rfl) [x0, x1, x2, x3, x4, x5, x6, x7, x8, x9, x10, x11, x12, x13, x14, x15, x16] _ (fun j u hu => by rw [Nat.zero_add]; exact (h2.keep gv).2 j u hu) Try.underlying69 rfl (by kernel_rfl) ?_
   exact hK' _ _ (hK _ _ (Below.refl _ _) (at_of rfl (rfl)) (fun h => absurd h (by simp)))
  ·obtain ⟨x, rfl⟩ := upd_of (show x 0 = .agg #[x0, x1, x2, x3, x4, x5, x6, x7, x8, x9, x10, x11, x12, x13, x14, x15, x16] from hd 0 _ (by simp) rfl)
   try dsimp only [upd, Nat.reduceBEq, cond_true, cond_false]
   refine wpOp_step rfl (fun K' hK' => ?_)
   go_simp
   refine (SB.out v).mono ?_
   rintro e v' ⟨w3, b3, w7, b7, w11, b11, rfl, hg, r1, k3, k7, k11⟩
   exact hK' _ _ (hK _ _ hg (at_of rfl (⟨_,_,_,_,_,_, rfl, r1⟩)) (fun _ b hb => .inl (agg_new k3 k7 k11 b hb)))
  ·try dsimp only [upd, Nat.reduceBEq, cond_true, cond_false]
   refine wpOp_step rfl (fun K' hK' => ?_)
   rw [if_pos (by rfl)]
   refine wp_load_mid 69 _ rfl w.heap.size 0 (by rfl) [x0, x1, x2, x3, x4, x5, x6, x7, x8, x9, x10, x11, x12, x13, x14, x15, x16] _ (fun j u hu => by rw [Nat.zero_add]; exact (h2.keep gv).2 j u hu) Try.underlying69 rfl (by kernel_rfl) ?_
   exact hK' _ _ (hK _ _ (Below.refl _ _) (at_of rfl (rfl)) (fun h => absurd h (by simp)))
  ·obtain ⟨x, rfl⟩ := upd_of (show x 2 = .agg #[x0, x1, x2, x3, x4, x5, x6, x7, x8, x9, x10, x11, x12, x13, x14, x15, x16] from hd 2 _ (by simp) rfl)
   try dsimp only [upd, Nat.reduceBEq, cond_true, cond_false]
   refine wpOp_step rfl (fun K' hK' => ?_)
   go_simp
   refine (SC.out v).mono ?_
   rintro e v' ⟨rfl, hg⟩
   exact hK' _ _ (hK _ _ hg (at_of rfl (rfl)) (fun h => absurd h (by simp)))
  ·try dsimp only [upd, Nat.reduceBEq, cond_true, cond_false]
   refine wpOp_step rfl (fun K' hK' => ?_)
   go_simp
   have hg := Gr.al v (.cells #[.int .i64 0, .slice none 0 0, .int .i64 0, .slice none 0 0, .slice none 0 0, .int .i64 0, .bool false] 24)
   exact hK' _ _ (hK _ _ hg (at_of rfl (⟨_, rfl, gv.size, Own.new v [.int .i64 0, .slice none 0 0, .int .i64 0, .slice none 0 0, .slice none 0 0, .int .i64 0, .bool false] 24 v.heap.size rfl⟩)) (fun _ b hb => .inl (by simp [hasB, blkOf] at hb; subst hb; simp)))
  ·try dsimp only [upd, Nat.reduceBEq, cond_true, cond_false]
   refine wpOp_step rfl (fun K' hK' => ?_)
   go_simp
   have hg := Gr.al v (.cells #[.int .i64 0, .int .i64 0] 37)
   exact hK' _ _ (hK _ _ hg (at_of rfl (⟨_, rfl, gv.size, Own.new v [.int .i64 0, .int .i64 0] 37 v.heap.size rfl⟩)) (fun _ b hb => .inl (by simp [hasB, blkOf] at hb; subst hb; simp)))
 case fin1 =>
  rintro x v gv hd hap
  obtain ⟨ka3, kc3, ka7, kc7, ka11, kc11, e1, r1⟩ := hd 1 _ (by omega) rfl
  obtain ⟨x, rfl⟩ := upd_of (show x 1 = .agg #[.int .i64 30, .slice ka3 4 kc3, .int .i64 hei, .slice ka7 2 kc7, .slice ka11 2 kc11, .int .i64 9, .bool o] from e1)
  obtain ⟨x, rfl⟩ := upd_of (show x 3 = .agg #[.int .i64 cl, .int .i64 ch] from hd 3 _ (by omega) rfl)
  obtain ⟨v4, e4, l4, o4⟩ := hd 4 _ (by omega) rfl
  obtain ⟨x, rfl⟩ := upd_of (show x 4 = .pointer (some ⟨v4, 0, none⟩) from e4)
  obtain ⟨v5, e5, l5, o5⟩ := hd 5 _ (by omega) rfl
  obtain ⟨x, rfl⟩ := upd_of (show x 5 = .pointer (some ⟨v5, 0, none⟩) from e5)
  clear hd
  show wpList Try.prog _ _ (List.drop 6 _) (⟨#[_,_,_,_,_, .pointer (some ⟨v4, 0, none⟩), .pointer (some ⟨v5, 0, none⟩),_,_,_,_,_,_,_,_,_,_,_,_,_,_,_,_, x 0, .agg #[.int .i64 30, .slice ka3 4 kc3, .int .i64 hei, .slice ka7 2 kc7, .slice ka11 2 kc11, .int .i64 9, .bool o], x 2, .agg #[.int .i64 cl, .int .i64 ch],_,_,_,_,_,_,_,_,_,_,_,_,_,_,_,_,_,_,_,_,_,_,_,_,_,_,_,_,_,_,_,_,_,_,_,_,_,_,_,_,_,_,_,_,_,_,_,_,_,_,_,_,_,_,_,_,_,_,_,_,_,_,_,_,_,_,_,_,_,_,_,_,_,_,_,_,_,_,_,_,_,_,_,_,_,_,_,_,_,_,_,_,_,_,_,_,_,_,_,_,_,_,_,_,_,_,_,_,_,_,_,_,_,_,_,_,_,_,_,_,_,_,_,_,_,_,_,_,_,_,_,_,_,_,_,_,_,_,_,_,_,_,_,_,_,_,_,_,_,_,_,_,_,_,_,_,_,_,_,_,_,_,_,_,_,_,_,_,_,_,_,_,_,_,_,_,_,_,_,_,_,_,_,_,_,_,_,_,_,_,_,_,_,_,_,_,_,_,_,_,_,_,_,_,_,_,_,_,_,_,_,_,_,_,_,_,_,_,_,_,_,_,_,_,_,_,_,_,_,_,_,_,_,_,_,_,_,_,_,_,_,_,_,_,_,_,_,_,_,_,_,_,_,_], []⟩ : Act) v
  simp only [List.drop_succ_cons, List.drop_zero]
  have d45 : v4 ≠ v5 := fun e => hap 4 5 (by simp) (by simp) (by simp) (by omega) (by omega) v5 (by rw [e4, e]; simp [hasB, blkOf]) (by rw [e5]; simp [hasB, blkOf])
  have NA := Lib.hid (show ∀ r, hasB (.agg #[.int .i64 30, .slice ka3 4 kc3, .int .i64 hei, .slice ka7 2 kc7, .slice ka11 2 kc11, .int .i64 9, .bool o]) r → r ≠ v4 ∧ r ≠ v5 from fun r h => ⟨fun e => hap 1 4 (by simp) (by simp) (by simp) (by omega) (by omega) r (by rw [e1]; exact h) (by rw [e4, e]; simp [hasB, blkOf]), fun e => hap 1 5 (by simp) (by simp) (by simp) (by omega) (by omega) r (by rw [e1]; exact h) (by rw [e5, e]; simp [hasB, blkOf])⟩)
  clear hap e1 e4 e5
  obtain ⟨r2, r3, r4⟩ := r1
  have s4_0 := o4.1.2 0 _ rfl
  have z4_0 := o4.2 0
  have s4_1 := o4.1.2 1 _ rfl
  have z4_1 := o4.2 1
  have s4_2 := o4.1.2 2 _ rfl
  have z4_2 := o4.2 2
  have s4_3 := o4.1.2 3 _ rfl
  have z4_3 := o4.2 3
  have s4_4 := o4.1.2 4 _ rfl
  have z4_4 := o4.2 4
  have s4_5 := o4.1.2 5 _ rfl
  have z4_5 := o4.2 5
  have s4_6 := o4.1.2 6 _ rfl
  have z4_6 := o4.2 6
  have s5_0 := o5.1.2 0 _ rfl
  have z5_0 := o5.2 0
  have s5_1 := o5.1.2 1 _ rfl
  have z5_1 := o5.2 1
  go_upto_region 2 with fail
  clear s4_0 z4_0 s4_1 z4_1 s4_2 z4_2 s4_3 z4_3 s4_4 z4_4 s4_5 z4_5 s4_6 z4_6 s5_0 z5_0 s5_1 z5_1
  refine wp_abs (fun Z => Gr U Z ∧ Own Z v4 [.int .i64 30, .slice ka3 4 kc3, .int .i64 hei, .slice ka7 2 kc7, .slice ka11 2 kc11, .int .i64 9, .bool o] ∧ Own Z v5 [.int .i64 cl, .int .i64 ch] ∧ Kx (fun j => j = v4 ∨ j = v5) v Z) ⟨(((((((((gv.setCell (p := ⟨v4, 0, none⟩) l4 _).setCell (p := ⟨v4, 1, none⟩) l4 _).setCell (p := ⟨v4, 2, none⟩) l4 _).setCell (p := ⟨v4, 3, none⟩) l4 _).setCell (p := ⟨v4, 4, none⟩) l4 _).setCell (p := ⟨v4, 5, none⟩) l4 _).setCell (p := ⟨v4, 6, none⟩) l4 _).setCell (p := ⟨v5, 0, none⟩) l5 _).setCell (p := ⟨v5, 1, none⟩) l5 _), (((((((((o4.set (i := 0) (by simp)).set (i := 1) (by simp)).set (i := 2) (by simp)).set (i := 3) (by simp)).set (i := 4) (by simp)).set (i := 5) (by simp)).set (i := 6) (by simp)).other d45).other d45), (((((((((o5.other (Ne.symm d45)).other (Ne.symm d45)).other (Ne.symm d45)).other (Ne.symm d45)).other (Ne.symm d45)).other (Ne.symm d45)).other (Ne.symm d45)).set (i := 0) (by simp)).set (i := 1) (by simp)), ((((((((((Kx.refl _ _).tr (Kx.set (Z := fun j => j = v4 ∨ j = v5) (p := ⟨v4, 0, none⟩) (.inl rfl) _)).tr (Kx.set (Z := fun j => j = v4 ∨ j = v5) (p := ⟨v4, 1, none⟩) (.inl rfl) _)).tr (Kx.set (Z := fun j => j = v4 ∨ j = v5) (p := ⟨v4, 2, none⟩) (.inl rfl) _)).tr (Kx.set (Z := fun j => j = v4 ∨ j = v5) (p := ⟨v4, 3, none⟩) (.inl rfl) _)).tr (Kx.set (Z := fun j => j = v4 ∨ j = v5) (p := ⟨v4, 4, none⟩) (.inl rfl) _)).tr (Kx.set (Z := fun j => j = v4 ∨ j = v5) (p := ⟨v4, 5, none⟩) (.inl rfl) _)).tr (Kx.set (Z := fun j => j = v4 ∨ j = v5) (p := ⟨v4, 6, none⟩) (.inl rfl) _)).tr (Kx.set (Z := fun j => j = v4 ∨ j = v5) (p := ⟨v5, 0, none⟩) (.inr rfl) _)).tr (Kx.set (Z := fun j => j = v4 ∨ j = v5) (p := ⟨v5, 1, none⟩) (.inr rfl) _))⟩ ?_
  clear gv o4 o5
  rintro Z ⟨gZ, oL, oA, KX⟩
  have KX := Lib.hid KX
  have ne3 : ∀ b off, ka3 = some ⟨b, off, none⟩ → ¬ (b = v4 ∨ b = v5) := fun b off e e2 => by have h8 := NA.out b (three_agg (.inl (by rw [e]; rfl))); omega
  have ne7 : ∀ b off, ka7 = some ⟨b, off, none⟩ → ¬ (b = v4 ∨ b = v5) := fun b off e e2 => by have h8 := NA.out b (three_agg (.inr (.inl (by rw [e]; rfl)))); omega
  have ne11 : ∀ b off, ka11 = some ⟨b, off, none⟩ → ¬ (b = v4 ∨ b = v5) := fun b off e e2 => by have h8 := NA.out b (three_agg (.inr (.inr (by rw [e]; rfl)))); omega
  replace r2 := RowOf.kx r2 KX.out ne3
  replace r3 := RowOf.kx r3 KX.out ne7
  replace r4 := RowOf.kx r4 KX.out ne11
  clear KX NA ne3 ne7 ne11 h2
  replace h3 := h3.keep gZ
  replace gU := gU.tr gZ
  clear gZ d45 l4 l5
  replace oL := oL.1
  replace oA := oA.1
  refine (show (∀ sa : Nat → Value, Code.wp Try.prog _ _ ⟨#[sa 0,sa 1,sa 2, .pointer (some ⟨(w.heap.size + 1), 0, none⟩), .bool false, .pointer (some ⟨v4, 0, none⟩), .pointer (some ⟨v5, 0, none⟩),undef,undef,undef,undef,undef,undef,undef,undef,undef,undef,undef,undef,undef,undef,undef,undef,sa 23,sa 24,sa 25,sa 26,undef,undef,undef,undef,undef,undef,undef,undef,undef,undef,undef,undef,undef,undef,undef,undef,undef,undef,undef,undef,undef,undef,undef,undef,undef,undef,undef,undef,undef,undef,undef,undef,undef,undef,undef,undef,undef,undef,undef,undef,undef,undef,undef,undef,undef,undef,undef,undef,undef,undef,undef,undef,undef,undef,undef,undef,undef,undef,undef,undef,undef,undef,undef,undef,undef,undef,undef,undef,undef,undef,undef,undef,undef,undef,undef,undef,undef,undef,undef,undef,undef,undef,undef,undef,undef,undef,undef,undef,undef,undef,undef,undef,undef,undef,undef,undef,undef,undef,undef,undef,undef,undef,undef,undef,undef,undef,undef,undef,undef,undef,undef,undef,undef,undef,undef,undef,undef,undef,undef,undef,undef,undef,undef,undef,undef,undef,undef,undef,undef,undef,undef,undef,undef,undef,undef,undef,undef,undef,undef,undef,undef,undef,undef,undef,undef,undef,undef,undef,undef,undef,undef,undef,undef,undef,undef,undef,undef,undef,undef,undef,undef,undef,undef,undef,undef,undef,undef,undef,undef,undef,undef,undef,undef,undef,undef,undef,undef,undef,undef,undef,undef,undef,undef,undef,undef,undef,undef,undef,undef,undef,undef,undef,undef,undef,undef,undef,undef,undef,undef,undef,undef,undef,undef,undef,undef,undef,undef,undef,undef,undef,undef,undef,undef,undef,undef,undef,undef,undef,undef,undef,undef,undef,undef,undef,undef,undef,undef,undef,undef,undef,undef,undef,undef,undef,undef,undef,undef,undef,undef,undef,undef,undef,undef,undef,undef,undef,undef,undef,undef,undef,undef,undef,undef,undef], []⟩ _) → _ from fun h => h ((fun l : List Value => fun i => l.getD i undef) [_,_,_,undef,undef,undef,undef,undef,undef,undef,undef,undef,undef,undef,undef,undef,undef,undef,undef,undef,undef,undef,undef,_,_,_,_])) ?_
  intro sa
  dsimp only
  refine wp_region_facts 8 [(2, 1), (3, 2), (5, 4), (6, 0), (6, 3), (6, 5)] (fun x => ⟨#[sa 0,sa 1,sa 2, .pointer (some ⟨(w.heap.size + 1), 0, none⟩), .bool false, .pointer (some ⟨v4, 0, none⟩), .pointer (some ⟨v5, 0, none⟩), x 7,undef,undef,undef,undef,undef,undef,undef,undef,undef,undef,undef,undef,undef,undef,undef,sa 23,sa 24,sa 25,sa 26, x 0, x 1, x 2, x 3, x 4, x 5, x 6,undef,undef,undef,undef,undef,undef,undef,undef,undef,undef,undef,undef,undef,undef,undef,undef,undef,undef,undef,undef,undef,undef,undef,undef,undef,undef,undef,undef,undef,undef,undef,undef,undef,undef,undef,undef,undef,undef,undef,undef,undef,undef,undef,undef,undef,undef,undef,undef,undef,undef,undef,undef,undef,undef,undef,undef,undef,undef,undef,undef,undef,undef,undef,undef,undef,undef,undef,undef,undef,undef,undef,undef,undef,undef,undef,undef,undef,undef,undef,undef,undef,undef,undef,undef,undef,undef,undef,undef,undef,undef,undef,undef,undef,undef,undef,undef,undef,undef,undef,undef,undef,undef,undef,undef,undef,undef,undef,undef,undef,undef,undef,undef,undef,undef,undef,undef,undef,undef,undef,undef,undef,undef,undef,undef,undef,undef,undef,undef,undef,undef,undef,undef,undef,undef,undef,undef,undef,undef,undef,undef,undef,undef,undef,undef,undef,undef,undef,undef,undef,undef,undef,undef,undef,undef,undef,undef,undef,undef,undef,undef,undef,undef,undef,undef,undef,undef,undef,undef,undef,undef,undef,undef,undef,undef,undef,undef,undef,undef,undef,undef,undef,undef,undef,undef,undef,undef,undef,undef,undef,undef,undef,undef,undef,undef,undef,undef,undef,undef,undef,undef,undef,undef,undef,undef,undef,undef,undef,undef,undef,undef,undef,undef,undef,undef,undef,undef,undef,undef,undef,undef,undef,undef,undef,undef,undef,undef,undef,undef,undef,undef,undef,undef,undef,undef,undef,undef,undef,undef,undef,undef,undef,undef,undef,undef,undef,undef,undef], []⟩) (fun _ => undef) [fun _ x => x = .agg #[y0, y1, y2, y3, y4, y5, y6, y7, y8, y9, y10, y11, y12, y13, y14, y15, y16], fun _ x => x = .agg #[y0, y1, y2, y3, y4, y5, y6, y7, y8, y9, y10, y11, y12, y13, y14, y15, y16], fun v x => ∃ ma3 mc3 ma7 mc7 ma11 mc11, x = .agg #[.int .i64 30, .slice ma3 4 mc3, .int .i64 hei', .slice ma7 2 mc7, .slice ma11 2 mc11, .int .i64 9, .bool o'] ∧ (IRow v ma3 [q0, q1, q2, q3] ∧ IRow v ma7 [e0, e1] ∧ IRow v ma11 [z0, z1]), fun v x => ∃ P T tc ba bc, x = .agg #[.int .i64 30, .slice (some ⟨P, 0, none⟩) 4 4, .int .i64 hei', .slice (some ⟨T, 0, none⟩) 2 tc, .slice ba 2 bc, .int .i64 9, .bool o'] ∧ IRow v (some ⟨P, 0, none⟩) [q0, q1, q0, q1] ∧ IRow v (some ⟨T, 0, none⟩) [d0, d1] ∧ IRow v ba [z0, z1], fun _ x => x = .agg #[y0, y1, y2, y3, y4, y5, y6, y7, y8, y9, y10, y11, y12, y13, y14, y15, y16], fun _ x => x = .agg #[.int .i64 cl', .int .i64 ch'], fun _ x => x = .agg #[.int .i64 W.ll, .int .i64 W.lh, .int .i64 W.wl, .int .i64 W.wh, .int .i64 W.hl, .int .i64 W.hh, .int .i64 W.ol, .int .i64 W.oh, .int .i64 W.il, .int .i64 W.ih, .bool W.wo], fun v x => ∃ b, x = .pointer (some ⟨b, 0, none⟩) ∧ Z.heap.size ≤ b ∧ Own v b [.int .i64 0, .int .i64 0, .int .i64 0, .int .i64 0, .int .i64 0, .int .i64 0, .int .i64 0, .int .i64 0, .int .i64 0, .int .i64 0, .bool false]] (by rfl) (by kernel_rfl) (by kernel_rfl) (by kernel_rfl) (stays_cons (Stays.eq _) (stays_cons (Stays.eq _) (stays_cons ((show Stays (fun v x => ∃ ma3 mc3 ma7 mc7 ma11 mc11, x = .agg #[.int .i64 30, .slice ma3 4 mc3, .int .i64 hei', .slice ma7 2 mc7, .slice ma11 2 mc11, .int .i64 9, .bool o'] ∧ (IRow v ma3 [q0, q1, q2, q3] ∧ IRow v ma7 [e0, e1] ∧ IRow v ma11 [z0, z1])) from fun v v' x g ⟨a, b, c, d, e, f, h, r1, r2, r3⟩ => ⟨a, b, c, d, e, f, h, r1.grow g, r2.grow g, r3.grow g⟩)) (stays_cons ((show Stays (fun v x => ∃ P T tc ba bc, x = .agg #[.int .i64 30, .slice (some ⟨P, 0, none⟩) 4 4, .int .i64 hei', .slice (some ⟨T, 0, none⟩) 2 tc, .slice ba 2 bc, .int .i64 9, .bool o'] ∧ IRow v (some ⟨P, 0, none⟩) [q0, q1, q0, q1] ∧ IRow v (some ⟨T, 0, none⟩) [d0, d1] ∧ IRow v ba [z0, z1]) from fun v v' x g ⟨P, T, t, b, c, h, r1, r2, r3⟩ => ⟨P, T, t, b, c, h, r1.grow g, r2.grow g, r3.grow g⟩)) (stays_cons (Stays.eq _) (stays_cons (Stays.eq _) (stays_cons (Stays.eq _) (stays_cons ((show Stays (fun v x => ∃ b, x = .pointer (some ⟨b, 0, none⟩) ∧ Z.heap.size ≤ b ∧ Own v b [.int .i64 0, .int .i64 0, .int .i64 0, .int .i64 0, .int .i64 0, .int .i64 0, .int .i64 0, .int .i64 0, .int .i64 0, .int .i64 0, .bool false]) from fun v v' x g ⟨b, h, l, o⟩ => ⟨b, h, l, o.keep g⟩)) stays_nil)))))))) ?step2 ?fin2
  case step2 => as_aux_lemma =>
   rintro i hi x v gv hd K hK
   have hi8 : i = 0 ∨ i = 1 ∨ i = 2 ∨ i = 3 ∨ i = 4 ∨ i = 5 ∨ i = 6 ∨ i = 7 := by omega
   rcases hi8 with rfl | rfl | rfl | rfl | rfl | rfl | rfl | rfl
   ·try dsimp only [upd, Nat.reduceBEq, cond_true, cond_false]
    refine wpOp_step rfl (fun K' hK' => ?_)
    rw [if_pos (by rfl)]
    refine wp_load_mid 69 _ rfl (w.heap.size + 1) 0 (by rfl) [y0, y1, y2, y3, y4, y5, y6, y7, y8, y9, y10, y11, y12, y13, y14, y15, y16] _ (fun j u hu => by rw [Nat.zero_add]; exact (h3.keep gv).2 j u hu) Try.underlying69 rfl (by kernel_rfl) ?_
    exact hK' _ _ (hK _ _ (Below.refl _ _) (at_of rfl (rfl)))
   ·try dsimp only [upd, Nat.reduceBEq, cond_true, cond_false]
    refine wpOp_step rfl (fun K' hK' => ?_)
    rw [if_pos (by rfl)]
    refine wp_load_mid 69 _ rfl (w.heap.size + 1) 0 (by rfl) [y0, y1, y2, y3, y4, y5, y6, y7, y8, y9, y10, y11, y12, y13, y14, y15, y16] _ (fun j u hu => by rw [Nat.zero_add]; exact (h3.keep gv).2 j u hu) Try.underlying69 rfl (by kernel_rfl) ?_
    exact hK' _ _ (hK _ _ (Below.refl _ _) (at_of rfl (rfl)))
   ·obtain ⟨x, rfl⟩ := upd_of (show x 1 = .agg #[y0, y1, y2, y3, y4, y5, y6, y7, y8, y9, y10, y11, y12, y13, y14, y15, y16] from hd 1 _ (by simp) rfl)
    try dsimp only [upd, Nat.reduceBEq, cond_true, cond_false]
    refine wpOp_step rfl (fun K' hK' => ?_)
    go_simp
    refine (SB'.out v).mono ?_
    rintro e v' ⟨w3, b3, w7, b7, w11, b11, rfl, hg, r1, k3, k7, k11⟩
    exact hK' _ _ (hK _ _ hg (at_of rfl (⟨_,_,_,_,_,_, rfl, r1⟩)))
   ·obtain ⟨ma3, mc3, ma7, mc7, ma11, mc11, e2, y_r⟩ := hd 2 _ (by simp) rfl
    obtain ⟨x, rfl⟩ := upd_of (show x 2 = .agg #[.int .i64 30, .slice ma3 4 mc3, .int .i64 hei', .slice ma7 2 mc7, .slice ma11 2 mc11, .int .i64 9, .bool o'] from e2)
    try dsimp only [upd, Nat.reduceBEq, cond_true, cond_false]
    refine wpOp_step rfl (fun K' hK' => ?_)
    go_simp
    refine (TW.out _ _ _ _ _ _ v y_r.1 y_r.2.1 y_r.2.2).mono ?_
    rintro e v' ⟨P, T, tc, rfl, hg, rP, rT, lP, lT⟩
    exact hK' _ _ (hK _ _ hg (at_of rfl (⟨_,_,_,_,_, rfl, rP, rT, y_r.2.2.grow hg⟩)))
   ·try dsimp only [upd, Nat.reduceBEq, cond_true, cond_false]
    refine wpOp_step rfl (fun K' hK' => ?_)
    rw [if_pos (by rfl)]
    refine wp_load_mid 69 _ rfl (w.heap.size + 1) 0 (by rfl) [y0, y1, y2, y3, y4, y5, y6, y7, y8, y9, y10, y11, y12, y13, y14, y15, y16] _ (fun j u hu => by rw [Nat.zero_add]; exact (h3.keep gv).2 j u hu) Try.underlying69 rfl (by kernel_rfl) ?_
    exact hK' _ _ (hK _ _ (Below.refl _ _) (at_of rfl (rfl)))
   ·obtain ⟨x, rfl⟩ := upd_of (show x 4 = .agg #[y0, y1, y2, y3, y4, y5, y6, y7, y8, y9, y10, y11, y12, y13, y14, y15, y16] from hd 4 _ (by simp) rfl)
    try dsimp only [upd, Nat.reduceBEq, cond_true, cond_false]
    refine wpOp_step rfl (fun K' hK' => ?_)
    go_simp
    refine (SC'.out v).mono ?_
    rintro e v' ⟨rfl, hg⟩
    exact hK' _ _ (hK _ _ hg (at_of rfl (rfl)))
   ·obtain ⟨x, rfl⟩ := upd_of (show x 0 = .agg #[y0, y1, y2, y3, y4, y5, y6, y7, y8, y9, y10, y11, y12, y13, y14, y15, y16] from hd 0 _ (by simp) rfl)
    obtain ⟨P, T, tc, ba, bc, e3, rp, rt, rb⟩ := hd 3 _ (by simp) rfl
    obtain ⟨x, rfl⟩ := upd_of (show x 3 = .agg #[.int .i64 30, .slice (some ⟨P, 0, none⟩) 4 4, .int .i64 hei', .slice (some ⟨T, 0, none⟩) 2 tc, .slice ba 2 bc, .int .i64 9, .bool o'] from e3)
    obtain ⟨x, rfl⟩ := upd_of (show x 5 = .agg #[.int .i64 cl', .int .i64 ch'] from hd 5 _ (by simp) rfl)
    try dsimp only [upd, Nat.reduceBEq, cond_true, cond_false]
    refine wpOp_step rfl (fun K' hK' => ?_)
    go_simp
    refine (WI.out _ _ _ _ _ _ v rp rt rb).mono ?_
    rintro e v' ⟨rfl, hg⟩
    exact hK' _ _ (hK _ _ hg (at_of rfl (rfl)))
   ·try dsimp only [upd, Nat.reduceBEq, cond_true, cond_false]
    refine wpOp_step rfl (fun K' hK' => ?_)
    go_simp
    have hg := Gr.al v (.cells #[.int .i64 0, .int .i64 0, .int .i64 0, .int .i64 0, .int .i64 0, .int .i64 0, .int .i64 0, .int .i64 0, .int .i64 0, .int .i64 0, .bool false] 48)
    exact hK' _ _ (hK _ _ hg (at_of rfl (⟨_, rfl, gv.size, Own.new v [.int .i64 0, .int .i64 0, .int .i64 0, .int .i64 0, .int .i64 0, .int .i64 0, .int .i64 0, .int .i64 0, .int .i64 0, .int .i64 0, .bool false] 48 v.heap.size rfl⟩)))
  case fin2 =>
   rintro x v gv hd
   obtain ⟨x, rfl⟩ := upd_of (show x 6 = .agg #[.int .i64 W.ll, .int .i64 W.lh, .int .i64 W.wl, .int .i64 W.wh, .int .i64 W.hl, .int .i64 W.hh, .int .i64 W.ol, .int .i64 W.oh, .int .i64 W.il, .int .i64 W.ih, .bool W.wo] from hd 6 _ (by omega) rfl)
   obtain ⟨v7, e7, l7, o7⟩ := hd 7 _ (by omega) rfl
   obtain ⟨x, rfl⟩ := upd_of (show x 7 = .pointer (some ⟨v7, 0, none⟩) from e7)
   clear hd
   show wpList Try.prog _ _ (List.drop 8 _) (⟨#[_,_,_,_,_,_,_, .pointer (some ⟨v7, 0, none⟩),_,_,_,_,_,_,_,_,_,_,_,_,_,_,_,_,_,_,_, x 0, x 1, x 2, x 3, x 4, x 5, .agg #[.int .i64 W.ll, .int .i64 W.lh, .int .i64 W.wl, .int .i64 W.wh, .int .i64 W.hl, .int .i64 W.hh, .int .i64 W.ol, .int .i64 W.oh, .int .i64 W.il, .int .i64 W.ih, .bool W.wo],_,_,_,_,_,_,_,_,_,_,_,_,_,_,_,_,_,_,_,_,_,_,_,_,_,_,_,_,_,_,_,_,_,_,_,_,_,_,_,_,_,_,_,_,_,_,_,_,_,_,_,_,_,_,_,_,_,_,_,_,_,_,_,_,_,_,_,_,_,_,_,_,_,_,_,_,_,_,_,_,_,_,_,_,_,_,_,_,_,_,_,_,_,_,_,_,_,_,_,_,_,_,_,_,_,_,_,_,_,_,_,_,_,_,_,_,_,_,_,_,_,_,_,_,_,_,_,_,_,_,_,_,_,_,_,_,_,_,_,_,_,_,_,_,_,_,_,_,_,_,_,_,_,_,_,_,_,_,_,_,_,_,_,_,_,_,_,_,_,_,_,_,_,_,_,_,_,_,_,_,_,_,_,_,_,_,_,_,_,_,_,_,_,_,_,_,_,_,_,_,_,_,_,_,_,_,_,_,_,_,_,_,_,_,_,_,_,_,_,_,_,_,_,_,_,_,_,_,_,_,_,_,_,_,_,_,_,_,_,_,_,_,_,_,_,_,_], []⟩ : Act) v
   simp only [List.drop_succ_cons, List.drop_zero]
   clear e7 h3
   have s_0 := o7.1.2 0 _ rfl
   have z_0 := o7.2 0
   have s_1 := o7.1.2 1 _ rfl
   have z_1 := o7.2 1
   have s_2 := o7.1.2 2 _ rfl
   have z_2 := o7.2 2
   have s_3 := o7.1.2 3 _ rfl
   have z_3 := o7.2 3
   have s_4 := o7.1.2 4 _ rfl
   have z_4 := o7.2 4
   have s_5 := o7.1.2 5 _ rfl
   have z_5 := o7.2 5
   have s_6 := o7.1.2 6 _ rfl
   have z_6 := o7.2 6
   have s_7 := o7.1.2 7 _ rfl
   have z_7 := o7.2 7
   have s_8 := o7.1.2 8 _ rfl
   have z_8 := o7.2 8
   have s_9 := o7.1.2 9 _ rfl
   have z_9 := o7.2 9
   have s_10 := o7.1.2 10 _ rfl
   have z_10 := o7.2 10
   go_upto_region 3 with fail
   refine wp_abs (fun Q => Gr Z Q ∧ Box Q v7 [.int .i64 W.ll, .int .i64 W.lh, .int .i64 W.wl, .int .i64 W.wh, .int .i64 W.hl, .int .i64 W.hh, .int .i64 W.ol, .int .i64 W.oh, .int .i64 W.il, .int .i64 W.ih, .bool W.wo]) ⟨(((((((((((gv.setCell (p := ⟨v7, 0, none⟩) l7 _).setCell (p := ⟨v7, 1, none⟩) l7 _).setCell (p := ⟨v7, 2, none⟩) l7 _).setCell (p := ⟨v7, 3, none⟩) l7 _).setCell (p := ⟨v7, 4, none⟩) l7 _).setCell (p := ⟨v7, 5, none⟩) l7 _).setCell (p := ⟨v7, 6, none⟩) l7 _).setCell (p := ⟨v7, 7, none⟩) l7 _).setCell (p := ⟨v7, 8, none⟩) l7 _).setCell (p := ⟨v7, 9, none⟩) l7 _).setCell (p := ⟨v7, 10, none⟩) l7 _), (((((((((((o7.set (i := 0) (by simp)).set (i := 1) (by simp)).set (i := 2) (by simp)).set (i := 3) (by simp)).set (i := 4) (by simp)).set (i := 5) (by simp)).set (i := 6) (by simp)).set (i := 7) (by simp)).set (i := 8) (by simp)).set (i := 9) (by simp)).set (i := 10) (by simp)).1⟩ ?_
   clear gv o7 l7 s_0 z_0 s_1 z_1 s_2 z_2 s_3 z_3 s_4 z_4 s_5 z_5 s_6 z_6 s_7 z_7 s_8 z_8 s_9 z_9 s_10 z_10
   rintro V ⟨gQ, oW⟩
   replace gU := gU.tr gQ
   replace oL := oL.keep gQ
   replace oA := oA.keep gQ
   replace r2 := r2.grow gQ
   replace r3 := r3.grow gQ
   replace r4 := r4.grow gQ
   clear gQ
   have HB := Lib.hid HS.out.ok
   have HC := Lib.hid HK.out.ok
   obtain ⟨H, hH⟩ : ∃ H, holdW a0 a1 a2 a3 t0 t1 s0 s1 hei o W = H := ⟨_, rfl⟩
   have CG := Lib.hid (fun c d (hc : Cal2 c d) pa ta ba pc tc bc v h1 h2 h3 => close4_any a0 a1 a2 a3 t0 t1 s0 s1 hei o W c d HB.out HW.out hc pa ta ba pc tc bc v h1 h2 h3)
   have CA0 := Lib.hid (fun pa ta ba pc tc bc v h1 h2 h3 => cal4_any a0 a1 a2 a3 t0 t1 s0 s1 hei o W HB.out HW.out pa ta ba pc tc bc v h1 h2 h3)
   rw [hH] at CG CA0
   clear hH
   have BC := Lib.hid (bad_cal (H := H) HC.out)
   have BS := Lib.hid (fun (i : Nat) (x : Int × Int) (h : (badL cl ch H 10)[i]? = some x) => bad_says HC.out.2.1 h)
   have BU := Lib.hid (fun (i j : Nat) (x y : Int × Int) (hij : i < j) (h1 : (badL cl ch H 10)[i]? = some x) (h2 : (badL cl ch H 10)[j]? = some y) => bad_up 10 i j x y hij h1 h2)
   have BL := Lib.hid (badL_len cl ch H 10)
   obtain ⟨L, hL⟩ : ∃ L, badL cl ch H 10 = L := ⟨_, rfl⟩
   have CL := Lib.hid (fun pa ta ba pc tc bc v h1 h2 h3 => CG.out cl ch HC.out pa ta ba pc tc bc v h1 h2 h3)
   rw [hL] at CL BC BS BU BL
   clear hL
   obtain ⟨cm, cx, fe, CA, hd⟩ : ∃ cm cx fe : Int, Hid (∀ pa ta ba pc tc bc v, IRow v pa [a0, a1, a2, a3] → IRow v ta [t0, t1] → IRow v ba [s0, s1] → Calls Try.prog 43 #[.agg #[.int .i64 30, .slice pa 4 pc, .int .i64 hei, .slice ta 2 tc, .slice ba 2 bc, .int .i64 9, .bool o], .agg #[.int .i64 W.ll, .int .i64 W.lh, .int .i64 W.wl, .int .i64 W.wh, .int .i64 W.hl, .int .i64 W.hh, .int .i64 W.ol, .int .i64 W.oh, .int .i64 W.il, .int .i64 W.ih, .bool W.wo]] v fun e w' => e = .returned (.tuple #[.agg #[.int .i64 cm, .int .i64 cx], .int .i64 fe]) ∧ Gr v w') ∧ Hid ((fe = 0 ∧ cm = (calTo H 10).lo ∧ cx = (calTo H 10).hi ∧ cm ≤ cx) ∨ (fe = 7 ∧ cm = 0 ∧ cx = 0 ∧ (calTo H 10).hi < (calTo H 10).lo)) := by
    by_cases hc : (calTo H 10).lo ≤ (calTo H 10).hi
    ·exact ⟨_,_, 0, Lib.hid (fun pa ta ba pc tc bc v h1 h2 h3 => (CA0.out pa ta ba pc tc bc v h1 h2 h3).mono fun e w' h => h.some hc), Lib.hid (.inl ⟨rfl, rfl, rfl, hc⟩)⟩
    ·exact ⟨0, 0, 7, Lib.hid (fun pa ta ba pc tc bc v h1 h2 h3 => (CA0.out pa ta ba pc tc bc v h1 h2 h3).mono fun e w' h => h.none (by omega)), Lib.hid (.inr ⟨rfl, rfl, rfl, by omega⟩)⟩
   clear CA0
   refine (show (∀ sb : Nat → Value, Code.wp Try.prog _ _ ⟨#[sb 0,sb 1,sb 2,sb 3, .bool false, .pointer (some ⟨v4, 0, none⟩), .pointer (some ⟨v5, 0, none⟩), .pointer (some ⟨v7, 0, none⟩),undef,undef,undef,undef,undef,undef,undef,undef,undef,undef,undef,undef,undef,undef,undef,sb 23,sb 24,sb 25,sb 26,sb 27,sb 28,sb 29,sb 30,sb 31,sb 32,sb 33,undef,undef,undef,undef,undef,undef,undef,undef,undef,undef,undef,undef,undef,undef,undef,undef,undef,undef,undef,undef,undef,undef,undef,undef,undef,undef,undef,undef,undef,undef,undef,undef,undef,undef,undef,undef,undef,undef,undef,undef,undef,undef,undef,undef,undef,undef,undef,undef,undef,undef,undef,undef,undef,undef,undef,undef,undef,undef,undef,undef,undef,undef,undef,undef,undef,undef,undef,undef,undef,undef,undef,undef,undef,undef,undef,undef,undef,undef,undef,undef,undef,undef,undef,undef,undef,undef,undef,undef,undef,undef,undef,undef,undef,undef,undef,undef,undef,undef,undef,undef,undef,undef,undef,undef,undef,undef,undef,undef,undef,undef,undef,undef,undef,undef,undef,undef,undef,undef,undef,undef,undef,undef,undef,undef,undef,undef,undef,undef,undef,undef,undef,undef,undef,undef,undef,undef,undef,undef,undef,undef,undef,undef,undef,undef,undef,undef,undef,undef,undef,undef,undef,undef,undef,undef,undef,undef,undef,undef,undef,undef,undef,undef,undef,undef,undef,undef,undef,undef,undef,undef,undef,undef,undef,undef,undef,undef,undef,undef,undef,undef,undef,undef,undef,undef,undef,undef,undef,undef,undef,undef,undef,undef,undef,undef,undef,undef,undef,undef,undef,undef,undef,undef,undef,undef,undef,undef,undef,undef,undef,undef,undef,undef,undef,undef,undef,undef,undef,undef,undef,undef,undef,undef,undef,undef,undef,undef,undef,undef,undef,undef,undef,undef,undef,undef,undef,undef,undef,undef,undef,undef,undef,undef,undef,undef,undef,undef,undef], []⟩ _) → _ from fun h => h ((fun l : List Value => fun i => l.getD i undef) [_,_,_,_,undef,undef,undef,undef,undef,undef,undef,undef,undef,undef,undef,undef,undef,undef,undef,undef,undef,undef,undef,_,_,_,_,_,_,_,_,_,_,_])) ?_
   intro sb
   dsimp only
   refine wp_region_facts 9 [(1, 0), (4, 1), (4, 2), (4, 3), (5, 4), (6, 5), (7, 5), (8, 6)] (fun x => ⟨#[sb 0,sb 1,sb 2,sb 3, .bool false, .pointer (some ⟨v4, 0, none⟩), .pointer (some ⟨v5, 0, none⟩), .pointer (some ⟨v7, 0, none⟩), x 8,undef,undef,undef,undef,undef,undef,undef,undef,undef,undef,undef,undef,undef,undef,sb 23,sb 24,sb 25,sb 26,sb 27,sb 28,sb 29,sb 30,sb 31,sb 32,sb 33, x 5, x 0, x 1, x 2, x 3, x 4, x 6, x 7,undef,undef,undef,undef,undef,undef,undef,undef,undef,undef,undef,undef,undef,undef,undef,undef,undef,undef,undef,undef,undef,undef,undef,undef,undef,undef,undef,undef,undef,undef,undef,undef,undef,undef,undef,undef,undef,undef,undef,undef,undef,undef,undef,undef,undef,undef,undef,undef,undef,undef,undef,undef,undef,undef,undef,undef,undef,undef,undef,undef,undef,undef,undef,undef,undef,undef,undef,undef,undef,undef,undef,undef,undef,undef,undef,undef,undef,undef,undef,undef,undef,undef,undef,undef,undef,undef,undef,undef,undef,undef,undef,undef,undef,undef,undef,undef,undef,undef,undef,undef,undef,undef,undef,undef,undef,undef,undef,undef,undef,undef,undef,undef,undef,undef,undef,undef,undef,undef,undef,undef,undef,undef,undef,undef,undef,undef,undef,undef,undef,undef,undef,undef,undef,undef,undef,undef,undef,undef,undef,undef,undef,undef,undef,undef,undef,undef,undef,undef,undef,undef,undef,undef,undef,undef,undef,undef,undef,undef,undef,undef,undef,undef,undef,undef,undef,undef,undef,undef,undef,undef,undef,undef,undef,undef,undef,undef,undef,undef,undef,undef,undef,undef,undef,undef,undef,undef,undef,undef,undef,undef,undef,undef,undef,undef,undef,undef,undef,undef,undef,undef,undef,undef,undef,undef,undef,undef,undef,undef,undef,undef,undef,undef,undef,undef,undef,undef,undef,undef,undef,undef,undef,undef,undef,undef,undef,undef,undef,undef,undef,undef,undef,undef,undef,undef,undef,undef,undef,undef,undef], []⟩) (fun _ => undef) [fun _ x => x = .agg #[.int .i64 30, .slice ka3 4 kc3, .int .i64 hei, .slice ka7 2 kc7, .slice ka11 2 kc11, .int .i64 9, .bool o], fun v x => ∃ naa3 nac3 naa7 nac7 naa11 nac11, x = .agg #[.int .i64 30, .slice naa3 4 nac3, .int .i64 hei, .slice naa7 2 nac7, .slice naa11 2 nac11, .int .i64 9, .bool o] ∧ (IRow v naa3 [a0, a1, a2, a3] ∧ IRow v naa7 [t0, t1] ∧ IRow v naa11 [s0, s1]), fun _ x => x = .agg #[.int .i64 W.ll, .int .i64 W.lh, .int .i64 W.wl, .int .i64 W.wh, .int .i64 W.hl, .int .i64 W.hh, .int .i64 W.ol, .int .i64 W.oh, .int .i64 W.il, .int .i64 W.ih, .bool W.wo], fun _ x => x = .agg #[.int .i64 cl, .int .i64 ch], fun v x => ∃ ba4 bc4, x = .tuple #[.slice ba4 L.length bc4, .int .i64 0] ∧ BRow v ba4 L, fun v x => ∃ ba5 bc5, x = .tuple #[.slice ba5 L.length bc5, .int .i64 0] ∧ BRow v ba5 L, fun v x => ∃ ba6 bc6, x = .slice ba6 L.length bc6 ∧ BRow v ba6 L, fun _ x => x = .int .i64 0, fun v x => ∃ ba8 bc8, x = .slice ba8 L.length bc8 ∧ BRow v ba8 L] (by rfl) (by kernel_rfl) (by kernel_rfl) (by kernel_rfl) (stays_cons (Stays.eq _) (stays_cons ((show Stays (fun v x => ∃ naa3 nac3 naa7 nac7 naa11 nac11, x = .agg #[.int .i64 30, .slice naa3 4 nac3, .int .i64 hei, .slice naa7 2 nac7, .slice naa11 2 nac11, .int .i64 9, .bool o] ∧ (IRow v naa3 [a0, a1, a2, a3] ∧ IRow v naa7 [t0, t1] ∧ IRow v naa11 [s0, s1])) from fun v v' x g ⟨a, b, c, d, e, f, h, r1, r2, r3⟩ => ⟨a, b, c, d, e, f, h, r1.grow g, r2.grow g, r3.grow g⟩)) (stays_cons (Stays.eq _) (stays_cons (Stays.eq _) (stays_cons ((show Stays (fun v x => ∃ ba4 bc4, x = .tuple #[.slice ba4 L.length bc4, .int .i64 0] ∧ BRow v ba4 L) from fun v v' x g ⟨a, c, h, r⟩ => ⟨a, c, h, r.grow g⟩)) (stays_cons ((show Stays (fun v x => ∃ ba5 bc5, x = .tuple #[.slice ba5 L.length bc5, .int .i64 0] ∧ BRow v ba5 L) from fun v v' x g ⟨a, c, h, r⟩ => ⟨a, c, h, r.grow g⟩)) (stays_cons ((show Stays (fun v x => ∃ ba6 bc6, x = .slice ba6 L.length bc6 ∧ BRow v ba6 L) from fun v v' x g ⟨a, c, h, r⟩ => ⟨a, c, h, r.grow g⟩)) (stays_cons (Stays.eq _) (stays_cons ((show Stays (fun v x => ∃ ba8 bc8, x = .slice ba8 L.length bc8 ∧ BRow v ba8 L) from fun v v' x g ⟨a, c, h, r⟩ => ⟨a, c, h, r.grow g⟩)) stays_nil))))))))) ?step3 ?fin3
   case step3 => as_aux_lemma =>
    rintro i hi x v gv hd K hK
    have hi8 : i = 0 ∨ i = 1 ∨ i = 2 ∨ i = 3 ∨ i = 4 ∨ i = 5 ∨ i = 6 ∨ i = 7 ∨ i = 8 := by omega
    rcases hi8 with rfl | rfl | rfl | rfl | rfl | rfl | rfl | rfl | rfl
    ·try dsimp only [upd, Nat.reduceBEq, cond_true, cond_false]
     refine wpOp_step rfl (fun K' hK' => ?_)
     rw [if_pos (by rfl)]
     refine wp_load_mid 24 _ rfl v4 0 (by rfl) [.int .i64 30, .slice ka3 4 kc3, .int .i64 hei, .slice ka7 2 kc7, .slice ka11 2 kc11, .int .i64 9, .bool o] _ (fun j u hu => by rw [Nat.zero_add]; exact (oL.keep gv).2 j u hu) Try.underlying24 rfl (by kernel_rfl) ?_
     exact hK' _ _ (hK _ _ (Below.refl _ _) (at_of rfl (rfl)))
    ·obtain ⟨x, rfl⟩ := upd_of (show x 0 = .agg #[.int .i64 30, .slice ka3 4 kc3, .int .i64 hei, .slice ka7 2 kc7, .slice ka11 2 kc11, .int .i64 9, .bool o] from hd 0 _ (by simp) rfl)
     try dsimp only [upd, Nat.reduceBEq, cond_true, cond_false]
     refine wpOp_step rfl (fun K' hK' => ?_)
     go_simp
     refine (own4_any a0 a1 a2 a3 t0 t1 s0 s1 hei o _ _ _ _ _ _ v (r2.grow gv) (r3.grow gv) (r4.grow gv)).mono ?_
     rintro e v' ⟨w3, b3, w7, b7, w11, b11, rfl, hg, r1, r2, r3⟩
     exact hK' _ _ (hK _ _ hg (at_of rfl (⟨_,_,_,_,_,_, rfl, r1, r2, r3⟩)))
    ·try dsimp only [upd, Nat.reduceBEq, cond_true, cond_false]
     refine wpOp_step rfl (fun K' hK' => ?_)
     rw [if_pos (by rfl)]
     refine wp_load_mid 48 _ rfl v7 0 (by rfl) [.int .i64 W.ll, .int .i64 W.lh, .int .i64 W.wl, .int .i64 W.wh, .int .i64 W.hl, .int .i64 W.hh, .int .i64 W.ol, .int .i64 W.oh, .int .i64 W.il, .int .i64 W.ih, .bool W.wo] _ (fun j u hu => by rw [Nat.zero_add]; exact (oW.keep gv).2 j u hu) Try.underlying48 rfl (by kernel_rfl) ?_
     exact hK' _ _ (hK _ _ (Below.refl _ _) (at_of rfl (rfl)))
    ·try dsimp only [upd, Nat.reduceBEq, cond_true, cond_false]
     refine wpOp_step rfl (fun K' hK' => ?_)
     rw [if_pos (by rfl)]
     refine wp_load_mid 37 _ rfl v5 0 (by rfl) [.int .i64 cl, .int .i64 ch] _ (fun j u hu => by rw [Nat.zero_add]; exact (oA.keep gv).2 j u hu) Try.underlying37 rfl (by kernel_rfl) ?_
     exact hK' _ _ (hK _ _ (Below.refl _ _) (at_of rfl (rfl)))
    ·obtain ⟨naa3, nac3, naa7, nac7, naa11, nac11, e1, r1_⟩ := hd 1 _ (by simp) rfl
     obtain ⟨x, rfl⟩ := upd_of (show x 1 = .agg #[.int .i64 30, .slice naa3 4 nac3, .int .i64 hei, .slice naa7 2 nac7, .slice naa11 2 nac11, .int .i64 9, .bool o] from e1)
     obtain ⟨x, rfl⟩ := upd_of (show x 2 = .agg #[.int .i64 W.ll, .int .i64 W.lh, .int .i64 W.wl, .int .i64 W.wh, .int .i64 W.hl, .int .i64 W.hh, .int .i64 W.ol, .int .i64 W.oh, .int .i64 W.il, .int .i64 W.ih, .bool W.wo] from hd 2 _ (by simp) rfl)
     obtain ⟨x, rfl⟩ := upd_of (show x 3 = .agg #[.int .i64 cl, .int .i64 ch] from hd 3 _ (by simp) rfl)
     try dsimp only [upd, Nat.reduceBEq, cond_true, cond_false]
     refine wpOp_step rfl (fun K' hK' => ?_)
     go_simp
     refine (CL.out _ _ _ _ _ _ v r1_.1 r1_.2.1 r1_.2.2).mono ?_
     rintro e v' ⟨a9, c9, rfl, hg, r⟩
     exact hK' _ _ (hK _ _ hg (at_of rfl (⟨_,_, rfl, r⟩)))
    ·obtain ⟨ba4, bc4, e4, br4⟩ := hd 4 _ (by simp) rfl
     obtain ⟨x, rfl⟩ := upd_of (show x 4 = .tuple #[.slice ba4 L.length bc4, .int .i64 0] from e4)
     try dsimp only [upd, Nat.reduceBEq, cond_true, cond_false]
     refine wpOp_step rfl (fun K' hK' => ?_)
     go_simp
     exact hK' _ _ (hK _ _ (Below.refl _ _) (at_of rfl (⟨_,_, rfl, br4⟩)))
    ·obtain ⟨ba5, bc5, e5, br5⟩ := hd 5 _ (by simp) rfl
     obtain ⟨x, rfl⟩ := upd_of (show x 5 = .tuple #[.slice ba5 L.length bc5, .int .i64 0] from e5)
     try dsimp only [upd, Nat.reduceBEq, cond_true, cond_false]
     refine wpOp_step rfl (fun K' hK' => ?_)
     go_simp
     exact hK' _ _ (hK _ _ (Below.refl _ _) (at_of rfl (⟨_,_, rfl, br5⟩)))
    ·obtain ⟨ba5, bc5, e5, br5⟩ := hd 5 _ (by simp) rfl
     obtain ⟨x, rfl⟩ := upd_of (show x 5 = .tuple #[.slice ba5 L.length bc5, .int .i64 0] from e5)
     try dsimp only [upd, Nat.reduceBEq, cond_true, cond_false]
     refine wpOp_step rfl (fun K' hK' => ?_)
     go_simp
     exact hK' _ _ (hK _ _ (Below.refl _ _) (at_of rfl (rfl)))
    ·obtain ⟨ba6, bc6, e6, br6⟩ := hd 6 _ (by simp) rfl
     obtain ⟨x, rfl⟩ := upd_of (show x 6 = .slice ba6 L.length bc6 from e6)
     try dsimp only [upd, Nat.reduceBEq, cond_true, cond_false]
     refine wpOp_step rfl (fun K' hK' => ?_)
     go_simp
     exact hK' _ _ (hK _ _ (Below.refl _ _) (at_of rfl (⟨_,_, rfl, br6⟩)))
   case fin3 =>
    rintro x v gv hd
    obtain ⟨x, rfl⟩ := upd_of (show x 7 = .int .i64 0 from hd 7 _ (by omega) rfl)
    obtain ⟨ba8, bc8, e8, br8⟩ := hd 8 _ (by omega) rfl
    obtain ⟨x, rfl⟩ := upd_of (show x 8 = .slice ba8 L.length bc8 from e8)
    clear hd
    show wpList Try.prog _ _ (List.drop 9 _) (⟨#[_,_,_,_,_,_,_,_, .slice ba8 L.length bc8,_,_,_,_,_,_,_,_,_,_,_,_,_,_,_,_,_,_,_,_,_,_,_,_,_, x 5, x 0, x 1, x 2, x 3, x 4, x 6, .int .i64 0,_,_,_,_,_,_,_,_,_,_,_,_,_,_,_,_,_,_,_,_,_,_,_,_,_,_,_,_,_,_,_,_,_,_,_,_,_,_,_,_,_,_,_,_,_,_,_,_,_,_,_,_,_,_,_,_,_,_,_,_,_,_,_,_,_,_,_,_,_,_,_,_,_,_,_,_,_,_,_,_,_,_,_,_,_,_,_,_,_,_,_,_,_,_,_,_,_,_,_,_,_,_,_,_,_,_,_,_,_,_,_,_,_,_,_,_,_,_,_,_,_,_,_,_,_,_,_,_,_,_,_,_,_,_,_,_,_,_,_,_,_,_,_,_,_,_,_,_,_,_,_,_,_,_,_,_,_,_,_,_,_,_,_,_,_,_,_,_,_,_,_,_,_,_,_,_,_,_,_,_,_,_,_,_,_,_,_,_,_,_,_,_,_,_,_,_,_,_,_,_,_,_,_,_,_,_,_,_,_,_,_,_,_,_,_,_,_,_,_,_,_,_,_,_,_,_,_,_,_,_,_,_,_,_,_,_,_,_,_], []⟩ : Act) v
    simp only [List.drop_succ_cons, List.drop_zero]
    replace gU := gU.tr gv
    replace oL := oL.keep gv
    replace oA := oA.keep gv
    replace r2 := r2.grow gv
    replace r3 := r3.grow gv
    replace r4 := r4.grow gv
    replace oW := oW.keep gv
    clear gv e8
    go_upto_region 4 with fail
    refine wp_abs (fun Q => Gr v Q) (Below.refl _ _) ?_
    rintro V4 gQ
    replace gU := gU.tr gQ
    replace oL := oL.keep gQ
    replace oA := oA.keep gQ
    replace r2 := r2.grow gQ
    replace r3 := r3.grow gQ
    replace r4 := r4.grow gQ
    replace oW := oW.keep gQ
    replace br8 := br8.grow gQ
    clear gQ
    refine (show (∀ sc : Nat → Value, Code.wp Try.prog _ _ ⟨#[sc 0,sc 1,sc 2,sc 3, .bool false, .pointer (some ⟨v4, 0, none⟩), .pointer (some ⟨v5, 0, none⟩), .pointer (some ⟨v7, 0, none⟩), .slice ba8 L.length bc8, .int .i64 0,undef,undef,undef,undef,undef,undef,undef,undef,undef,undef,undef,undef,undef,sc 23,sc 24,sc 25,sc 26,sc 27,sc 28,sc 29,sc 30,sc 31,sc 32,sc 33,sc 34,sc 35,sc 36,sc 37,sc 38,sc 39,sc 40,sc 41,undef,undef,undef,undef,undef,undef,undef,undef,undef,undef,undef,undef,undef,undef,undef,undef,undef,undef,undef,undef,undef,undef,undef,undef,undef,undef,undef,undef,undef,undef,undef,undef,undef,undef,undef,undef,undef,undef,undef,undef,undef,undef,undef,undef,undef,undef,undef,undef,undef,undef,undef,undef,undef,undef,undef,undef,undef,undef,undef,undef,undef,undef,undef,undef,undef,undef,undef,undef,undef,undef,undef,undef,undef,undef,undef,undef,undef,undef,undef,undef,undef,undef,undef,undef,undef,undef,undef,undef,undef,undef,undef,undef,undef,undef,undef,undef,undef,undef,undef,undef,undef,undef,undef,undef,undef,undef,undef,undef,undef,undef,undef,undef,undef,undef,undef,undef,undef,undef,undef,undef,undef,undef,undef,undef,undef,undef,undef,undef,undef,undef,undef,undef,undef,undef,undef,undef,undef,undef,undef,undef,undef,undef,undef,undef,undef,undef,undef,undef,undef,undef,undef,undef,undef,undef,undef,undef,undef,undef,undef,undef,undef,undef,undef,undef,undef,undef,undef,undef,undef,undef,undef,undef,undef,undef,undef,undef,undef,undef,undef,undef,undef,undef,undef,undef,undef,undef,undef,undef,undef,undef,undef,undef,undef,undef,undef,undef,undef,undef,undef,undef,undef,undef,undef,undef,undef,undef,undef,undef,undef,undef,undef,undef,undef,undef,undef,undef,undef,undef,undef,undef,undef,undef,undef,undef,undef,undef,undef,undef,undef,undef,undef,undef,undef,undef,undef,undef,undef,undef,undef], []⟩ _) → _ from fun h => h ((fun l : List Value => fun i => l.getD i undef) [_,_,_,_,undef,undef,undef,undef,undef,undef,undef,undef,undef,undef,undef,undef,undef,undef,undef,undef,undef,undef,undef,_,_,_,_,_,_,_,_,_,_,_,_,_,_,_,_,_,_,_])) ?_
    intro sc
    dsimp only
    refine wp_region_late 9 7 8 [6] [.int .i64 0, .int .i64 0] [.int .i64 cm, .int .i64 cx] 37 [(1, 0), (3, 1), (3, 2), (4, 3), (5, 4), (6, 4), (8, 0), (8, 1), (8, 2), (8, 3), (8, 4), (8, 5), (8, 7)] (fun x => ⟨#[sc 0,sc 1,sc 2,sc 3, .bool false, .pointer (some ⟨v4, 0, none⟩), .pointer (some ⟨v5, 0, none⟩), .pointer (some ⟨v7, 0, none⟩), .slice ba8 L.length bc8, .int .i64 0, x 7,undef,undef,undef,undef,undef,undef,undef,undef,undef,undef,undef,undef,sc 23,sc 24,sc 25,sc 26,sc 27,sc 28,sc 29,sc 30,sc 31,sc 32,sc 33,sc 34,sc 35,sc 36,sc 37,sc 38,sc 39,sc 40,sc 41, x 4, x 0, x 1, x 2, x 3, x 5, x 6,undef,undef,undef,undef,undef,undef,undef,undef,undef,undef,undef,undef,undef,undef,undef,undef,undef,undef,undef,undef,undef,undef,undef,undef,undef,undef,undef,undef,undef,undef,undef,undef,undef,undef,undef,undef,undef,undef,undef,undef,undef,undef,undef,undef,undef,undef,undef,undef,undef,undef,undef,undef,undef,undef,undef,undef,undef,undef,undef,undef,undef,undef,undef,undef,undef,undef,undef,undef,undef,undef,undef,undef,undef,undef,undef,undef,undef,undef,undef,undef,undef,undef,undef,undef,undef,undef,undef,undef,undef,undef,undef,undef,undef,undef,undef,undef,undef,undef,undef,undef,undef,undef,undef,undef,undef,undef,undef,undef,undef,undef,undef,undef,undef,undef,undef,undef,undef,undef,undef,undef,undef,undef,undef,undef,undef,undef,undef,undef,undef,undef,undef,undef,undef,undef,undef,undef,undef,undef,undef,undef,undef,undef,undef,undef,undef,undef,undef,undef,undef,undef,undef,undef,undef,undef,undef,undef,undef,undef,undef,undef,undef,undef,undef,undef,undef,undef,undef,undef,undef,undef,undef,undef,undef,undef,undef,undef,undef,undef,undef,undef,undef,undef,undef,undef,undef,undef,undef,undef,undef,undef,undef,undef,undef,undef,undef,undef,undef,undef,undef,undef,undef,undef,undef,undef,undef,undef,undef,undef,undef,undef,undef,undef,undef,undef,undef,undef,undef,undef,undef,undef,undef,undef,undef,undef,undef,undef,undef,undef,undef,undef,undef,undef], []⟩) (fun _ => undef) [fun _ x => x = .agg #[.int .i64 30, .slice ka3 4 kc3, .int .i64 hei, .slice ka7 2 kc7, .slice ka11 2 kc11, .int .i64 9, .bool o], fun v x => ∃ naa3 nac3 naa7 nac7 naa11 nac11, x = .agg #[.int .i64 30, .slice naa3 4 nac3, .int .i64 hei, .slice naa7 2 nac7, .slice naa11 2 nac11, .int .i64 9, .bool o] ∧ (IRow v naa3 [a0, a1, a2, a3] ∧ IRow v naa7 [t0, t1] ∧ IRow v naa11 [s0, s1]), fun _ x => x = .agg #[.int .i64 W.ll, .int .i64 W.lh, .int .i64 W.wl, .int .i64 W.wh, .int .i64 W.hl, .int .i64 W.hh, .int .i64 W.ol, .int .i64 W.oh, .int .i64 W.il, .int .i64 W.ih, .bool W.wo], fun _ x => x = .tuple #[.agg #[.int .i64 cm, .int .i64 cx], .int .i64 fe], fun _ x => x = .tuple #[.agg #[.int .i64 cm, .int .i64 cx], .int .i64 fe], fun _ x => x = .agg #[.int .i64 cm, .int .i64 cx], fun _ x => x = .int .i64 fe, fun _ _ => True, fun _ _ => True] (by rfl) (by kernel_rfl) (by kernel_rfl) (by kernel_rfl) (stays_cons (Stays.eq _) (stays_cons ((show Stays (fun v x => ∃ naa3 nac3 naa7 nac7 naa11 nac11, x = .agg #[.int .i64 30, .slice naa3 4 nac3, .int .i64 hei, .slice naa7 2 nac7, .slice naa11 2 nac11, .int .i64 9, .bool o] ∧ (IRow v naa3 [a0, a1, a2, a3] ∧ IRow v naa7 [t0, t1] ∧ IRow v naa11 [s0, s1])) from fun v v' x g ⟨a, b, c, d, e, f, h, r1, r2, r3⟩ => ⟨a, b, c, d, e, f, h, r1.grow g, r2.grow g, r3.grow g⟩)) (stays_cons (Stays.eq _) (stays_cons (Stays.eq _) (stays_cons (Stays.eq _) (stays_cons (Stays.eq _) (stays_cons (Stays.eq _) (stays_cons (Stays.tr) (stays_cons (Stays.tr) stays_nil))))))))) (by decide) (by decide) ?step4 ?pa4 ?qa4 ?late4 ?fin4
    case step4 => as_aux_lemma =>
     rintro i hi h1 h2 h3 x v gv hd K hK
     have hi8 : i = 0 ∨ i = 1 ∨ i = 2 ∨ i = 3 ∨ i = 4 ∨ i = 5 := by
      simp only [List.mem_cons, List.not_mem_nil, or_false, not_or] at h3
      omega
     rcases hi8 with rfl | rfl | rfl | rfl | rfl | rfl
     ·try dsimp only [upd, Nat.reduceBEq, cond_true, cond_false]
      refine wpOp_step rfl (fun K' hK' => ?_)
      rw [if_pos (by rfl)]
      refine wp_load_mid 24 _ rfl v4 0 (by rfl) [.int .i64 30, .slice ka3 4 kc3, .int .i64 hei, .slice ka7 2 kc7, .slice ka11 2 kc11, .int .i64 9, .bool o] _ (fun j u hu => by rw [Nat.zero_add]; exact (oL.keep gv).2 j u hu) Try.underlying24 rfl (by kernel_rfl) ?_
      exact hK' _ _ (hK _ _ (Below.refl _ _) (at_of rfl (rfl)))
     ·obtain ⟨x, rfl⟩ := upd_of (show x 0 = .agg #[.int .i64 30, .slice ka3 4 kc3, .int .i64 hei, .slice ka7 2 kc7, .slice ka11 2 kc11, .int .i64 9, .bool o] from hd 0 _ (by simp) (by decide) (by decide) rfl)
      try dsimp only [upd, Nat.reduceBEq, cond_true, cond_false]
      refine wpOp_step rfl (fun K' hK' => ?_)
      go_simp
      refine (own4_any a0 a1 a2 a3 t0 t1 s0 s1 hei o _ _ _ _ _ _ v (r2.grow gv) (r3.grow gv) (r4.grow gv)).mono ?_
      rintro e v' ⟨w3, b3, w7, b7, w11, b11, rfl, hg, r1, r2, r3⟩
      exact hK' _ _ (hK _ _ hg (at_of rfl (⟨_,_,_,_,_,_, rfl, r1, r2, r3⟩)))
     ·try dsimp only [upd, Nat.reduceBEq, cond_true, cond_false]
      refine wpOp_step rfl (fun K' hK' => ?_)
      rw [if_pos (by rfl)]
      refine wp_load_mid 48 _ rfl v7 0 (by rfl) [.int .i64 W.ll, .int .i64 W.lh, .int .i64 W.wl, .int .i64 W.wh, .int .i64 W.hl, .int .i64 W.hh, .int .i64 W.ol, .int .i64 W.oh, .int .i64 W.il, .int .i64 W.ih, .bool W.wo] _ (fun j u hu => by rw [Nat.zero_add]; exact (oW.keep gv).2 j u hu) Try.underlying48 rfl (by kernel_rfl) ?_
      exact hK' _ _ (hK _ _ (Below.refl _ _) (at_of rfl (rfl)))
     ·obtain ⟨naa3, nac3, naa7, nac7, naa11, nac11, e1, r1_⟩ := hd 1 _ (by simp) (by decide) (by decide) rfl
      obtain ⟨x, rfl⟩ := upd_of (show x 1 = .agg #[.int .i64 30, .slice naa3 4 nac3, .int .i64 hei, .slice naa7 2 nac7, .slice naa11 2 nac11, .int .i64 9, .bool o] from e1)
      obtain ⟨x, rfl⟩ := upd_of (show x 2 = .agg #[.int .i64 W.ll, .int .i64 W.lh, .int .i64 W.wl, .int .i64 W.wh, .int .i64 W.hl, .int .i64 W.hh, .int .i64 W.ol, .int .i64 W.oh, .int .i64 W.il, .int .i64 W.ih, .bool W.wo] from hd 2 _ (by simp) (by decide) (by decide) rfl)
      try dsimp only [upd, Nat.reduceBEq, cond_true, cond_false]
      refine wpOp_step rfl (fun K' hK' => ?_)
      go_simp
      refine (CA.out _ _ _ _ _ _ v r1_.1 r1_.2.1 r1_.2.2).mono ?_
      rintro e v' ⟨rfl, hg⟩
      exact hK' _ _ (hK _ _ hg (at_of rfl (rfl)))
     ·obtain ⟨x, rfl⟩ := upd_of (show x 3 = .tuple #[.agg #[.int .i64 cm, .int .i64 cx], .int .i64 fe] from hd 3 _ (by simp) (by decide) (by decide) rfl)
      try dsimp only [upd, Nat.reduceBEq, cond_true, cond_false]
      refine wpOp_step rfl (fun K' hK' => ?_)
      go_simp
      exact hK' _ _ (hK _ _ (Below.refl _ _) (at_of rfl (rfl)))
     ·obtain ⟨x, rfl⟩ := upd_of (show x 4 = .tuple #[.agg #[.int .i64 cm, .int .i64 cx], .int .i64 fe] from hd 4 _ (by simp) (by decide) (by decide) rfl)
      try dsimp only [upd, Nat.reduceBEq, cond_true, cond_false]
      refine wpOp_step rfl (fun K' hK' => ?_)
      go_simp
      exact hK' _ _ (hK _ _ (Below.refl _ _) (at_of rfl (rfl)))
    case pa4 => as_aux_lemma =>
     rintro x v gv K hK
     show wpOp Try.prog _ _ 7 K (⟨#[_,_,_,_,_,_,_,_,_,_, x 7,_,_,_,_,_,_,_,_,_,_,_,_,_,_,_,_,_,_,_,_,_,_,_,_,_,_,_,_,_,_,_, x 4, x 0, x 1, x 2, x 3, x 5, x 6,_,_,_,_,_,_,_,_,_,_,_,_,_,_,_,_,_,_,_,_,_,_,_,_,_,_,_,_,_,_,_,_,_,_,_,_,_,_,_,_,_,_,_,_,_,_,_,_,_,_,_,_,_,_,_,_,_,_,_,_,_,_,_,_,_,_,_,_,_,_,_,_,_,_,_,_,_,_,_,_,_,_,_,_,_,_,_,_,_,_,_,_,_,_,_,_,_,_,_,_,_,_,_,_,_,_,_,_,_,_,_,_,_,_,_,_,_,_,_,_,_,_,_,_,_,_,_,_,_,_,_,_,_,_,_,_,_,_,_,_,_,_,_,_,_,_,_,_,_,_,_,_,_,_,_,_,_,_,_,_,_,_,_,_,_,_,_,_,_,_,_,_,_,_,_,_,_,_,_,_,_,_,_,_,_,_,_,_,_,_,_,_,_,_,_,_,_,_,_,_,_,_,_,_,_,_,_,_,_,_,_,_,_,_,_,_,_,_,_,_,_,_,_,_,_,_,_,_,_,_,_,_], []⟩ : Act) v
     refine wpOp_step rfl (fun K' hK' => ?_)
     go_simp
     exact hK' _ _ hK
    case qa4 => as_aux_lemma =>
     rintro x v bb gv hbb e ho hd K hK
     obtain ⟨x, rfl⟩ := upd_of (show x 5 = .agg #[.int .i64 cm, .int .i64 cx] from hd 5 _ (by simp) (by decide) rfl)
     obtain ⟨x, rfl⟩ := upd_of (show x 7 = .pointer (some ⟨bb, 0, none⟩) from by simpa [upd] using e)
     show wpOp Try.prog _ _ 8 K (⟨#[_,_,_,_,_,_,_,_,_,_, .pointer (some ⟨bb, 0, none⟩),_,_,_,_,_,_,_,_,_,_,_,_,_,_,_,_,_,_,_,_,_,_,_,_,_,_,_,_,_,_,_, x 4, x 0, x 1, x 2, x 3, .agg #[.int .i64 cm, .int .i64 cx], x 6,_,_,_,_,_,_,_,_,_,_,_,_,_,_,_,_,_,_,_,_,_,_,_,_,_,_,_,_,_,_,_,_,_,_,_,_,_,_,_,_,_,_,_,_,_,_,_,_,_,_,_,_,_,_,_,_,_,_,_,_,_,_,_,_,_,_,_,_,_,_,_,_,_,_,_,_,_,_,_,_,_,_,_,_,_,_,_,_,_,_,_,_,_,_,_,_,_,_,_,_,_,_,_,_,_,_,_,_,_,_,_,_,_,_,_,_,_,_,_,_,_,_,_,_,_,_,_,_,_,_,_,_,_,_,_,_,_,_,_,_,_,_,_,_,_,_,_,_,_,_,_,_,_,_,_,_,_,_,_,_,_,_,_,_,_,_,_,_,_,_,_,_,_,_,_,_,_,_,_,_,_,_,_,_,_,_,_,_,_,_,_,_,_,_,_,_,_,_,_,_,_,_,_,_,_,_,_,_,_,_,_,_,_,_,_,_,_,_,_,_,_,_,_,_,_,_,_,_,_,_,_,_], []⟩ : Act) v
     have t0_ := ho.1.2 0 _ rfl
     have f0_ := ho.2 0
     have t1_ := ho.1.2 1 _ rfl
     have f1_ := ho.2 1
     refine wpOp_step rfl (fun K' hK' => ?_)
     go_simp
     exact hK' _ _ (hK _ ((gv.setCell (p := ⟨bb, 0, none⟩) hbb _).setCell (p := ⟨bb, 1, none⟩) hbb _) ((ho.set (i := 0) (by simp)).set (i := 1) (by simp)))
    case late4 => as_aux_lemma =>
     rintro i hi hm x v gv hd K hK
     simp only [List.mem_cons, List.not_mem_nil, or_false] at hm
     rcases hm with rfl
     ·obtain ⟨x, rfl⟩ := upd_of (show x 4 = .tuple #[.agg #[.int .i64 cm, .int .i64 cx], .int .i64 fe] from late_of (hd 4 _ (by simp) (by decide) (by decide) rfl) (fun _ h => h))
      show wpOp Try.prog _ _ 6 K (⟨#[_,_,_,_,_,_,_,_,_,_, x 7,_,_,_,_,_,_,_,_,_,_,_,_,_,_,_,_,_,_,_,_,_,_,_,_,_,_,_,_,_,_,_, .tuple #[.agg #[.int .i64 cm, .int .i64 cx], .int .i64 fe], x 0, x 1, x 2, x 3, x 5, x 6,_,_,_,_,_,_,_,_,_,_,_,_,_,_,_,_,_,_,_,_,_,_,_,_,_,_,_,_,_,_,_,_,_,_,_,_,_,_,_,_,_,_,_,_,_,_,_,_,_,_,_,_,_,_,_,_,_,_,_,_,_,_,_,_,_,_,_,_,_,_,_,_,_,_,_,_,_,_,_,_,_,_,_,_,_,_,_,_,_,_,_,_,_,_,_,_,_,_,_,_,_,_,_,_,_,_,_,_,_,_,_,_,_,_,_,_,_,_,_,_,_,_,_,_,_,_,_,_,_,_,_,_,_,_,_,_,_,_,_,_,_,_,_,_,_,_,_,_,_,_,_,_,_,_,_,_,_,_,_,_,_,_,_,_,_,_,_,_,_,_,_,_,_,_,_,_,_,_,_,_,_,_,_,_,_,_,_,_,_,_,_,_,_,_,_,_,_,_,_,_,_,_,_,_,_,_,_,_,_,_,_,_,_,_,_,_,_,_,_,_,_,_,_,_,_,_,_,_,_,_,_,_], []⟩ : Act) v
      refine wpOp_step rfl (fun K' hK' => ?_)
      go_simp
      exact hK' _ _ (hK _ (fun F hF v0 => at_of (v := v0) rfl (rfl) F hF))
    case fin4 =>
     rintro x v v10 gv l_v10 e ho_v10 hd
     obtain ⟨x, rfl⟩ := upd_of (show x 6 = .int .i64 fe from late_of (hd 6 _ (by omega) (by decide) (by decide) rfl) (fun _ h => h))
     obtain ⟨x, rfl⟩ := upd_of (show x 7 = .pointer (some ⟨v10, 0, none⟩) from by simpa [upd] using e)
     clear hd e
     show wpList Try.prog _ _ (List.drop 9 _) (⟨#[_,_,_,_,_,_,_,_,_,_, .pointer (some ⟨v10, 0, none⟩),_,_,_,_,_,_,_,_,_,_,_,_,_,_,_,_,_,_,_,_,_,_,_,_,_,_,_,_,_,_,_, x 4, x 0, x 1, x 2, x 3, x 5, .int .i64 fe,_,_,_,_,_,_,_,_,_,_,_,_,_,_,_,_,_,_,_,_,_,_,_,_,_,_,_,_,_,_,_,_,_,_,_,_,_,_,_,_,_,_,_,_,_,_,_,_,_,_,_,_,_,_,_,_,_,_,_,_,_,_,_,_,_,_,_,_,_,_,_,_,_,_,_,_,_,_,_,_,_,_,_,_,_,_,_,_,_,_,_,_,_,_,_,_,_,_,_,_,_,_,_,_,_,_,_,_,_,_,_,_,_,_,_,_,_,_,_,_,_,_,_,_,_,_,_,_,_,_,_,_,_,_,_,_,_,_,_,_,_,_,_,_,_,_,_,_,_,_,_,_,_,_,_,_,_,_,_,_,_,_,_,_,_,_,_,_,_,_,_,_,_,_,_,_,_,_,_,_,_,_,_,_,_,_,_,_,_,_,_,_,_,_,_,_,_,_,_,_,_,_,_,_,_,_,_,_,_,_,_,_,_,_,_,_,_,_,_,_,_,_,_,_,_,_,_,_,_,_,_,_], []⟩ : Act) v
     simp only [List.drop_succ_cons, List.drop_zero]
     replace gU := gU.tr gv
     replace oL := oL.keep gv
     replace oA := oA.keep gv
     replace r2 := r2.grow gv
     replace r3 := r3.grow gv
     replace r4 := r4.grow gv
     replace oW := oW.keep gv
     replace br8 := br8.grow gv
     have oS := ho_v10.1
     clear gv ho_v10 l_v10 CA
     go_upto_region 5 with fail
     refine wp_abs (fun Q => Gr v Q) (Below.refl _ _) ?_
     rintro V5 gQ
     replace gU := gU.tr gQ
     replace oL := oL.keep gQ
     replace oA := oA.keep gQ
     replace r2 := r2.grow gQ
     replace r3 := r3.grow gQ
     replace r4 := r4.grow gQ
     replace oW := oW.keep gQ
     replace br8 := br8.grow gQ
     replace oS := oS.keep gQ
     clear gQ
     obtain ⟨c0_, c1_⟩ := oA.c2
     obtain ⟨c2_, c3_⟩ := oS.c2
     have bk := HK.out
     unfold Cal4 at bk
     obtain ⟨bk0, bk1, bk2⟩ := bk
     go_cut [80] from 49 to 79 (fun c wx => c = .bool false ∧ V5 = wx)
     case first =>
      have hbc := BC.out
      have hd1 := hd.out
      have hln : L.length = 0 ∨ 0 < L.length := by omega
      rcases hd1 with ⟨e1, e2, e3, e4⟩ | ⟨e1, e2, e3, e4⟩
      ·have hf0 : (fe != 0) = false := by rw [e1]; rfl
       have hf1 : (fe == 0) = true := by rw [e1]; rfl
       clear e1
       rw [← e2, ← e3] at hbc
       have hn0 : (L = []) ↔ (L.length = 0) := List.length_eq_zero_iff.symm
       rw [hn0] at hbc
       clear e2 e3 hn0
       by_cases g1 : cm ≤ cl
       ·by_cases g2 : ch ≤ cx
        ·have hz : L.length = 0 := hbc.2 ⟨g1, g2⟩
         have hz1 : ((L.length : Int) == 0) = true := by rw [hz]; rfl
         have g3 : cx ≥ ch := g2
         clear hbc hln hz e4
         go_wp2
         go_meet
         exact ⟨rfl, rfl⟩
        ·have hz1 : ((L.length : Int) == 0) = false := by simp; intro h; exact g2 (hbc.1 (by simpa using h)).2
         have g3 : ¬ cx ≥ ch := g2
         clear hbc hln e4
         go_wp2
         go_meet
         exact ⟨rfl, rfl⟩
       ·have hz1 : ((L.length : Int) == 0) = false := by simp; intro h; exact g1 (hbc.1 (by simpa using h)).1
        clear hbc hln e4
        go_wp2
        go_meet
        exact ⟨rfl, rfl⟩
      ·have hf0 : (fe != 0) = true := by rw [e1]; rfl
       have hf1 : (fe == 0) = false := by rw [e1]; rfl
       have hf7 : (fe != 7) = false := by rw [e1]; rfl
       have hz1 : ((L.length : Int) == 0) = false := by
        simp
        intro h
        have := hbc.1 h
        omega
       clear hbc hln e1 e2 e3 e4
       go_wp2
       go_meet
       exact ⟨rfl, rfl⟩
     case rest =>
      obtain ⟨rfl, rfl⟩ := hcut
      clear c0_ c1_ c2_ c3_
      go_upto_region 8 with fail
      refine (show (∀ se : Nat → Value, Code.wp Try.prog _ _ ⟨#[se 0,se 1,se 2,se 3, .bool false, .pointer (some ⟨v4, 0, none⟩), .pointer (some ⟨v5, 0, none⟩), .pointer (some ⟨v7, 0, none⟩), .slice ba8 L.length bc8, .int .i64 0, .pointer (some ⟨v10, 0, none⟩), .int .i64 fe, .int .i64 0,undef,undef,undef,undef,undef,undef,undef,undef,undef,undef,se 23,se 24,se 25,se 26,se 27,se 28,se 29,se 30,se 31,se 32,se 33,se 34,se 35,se 36,se 37,se 38,se 39,se 40,se 41,se 42,se 43,se 44,se 45,se 46,se 47,se 48,se 49,se 50,se 51,se 52,se 53,se 54,se 55,se 56,se 57,se 58,se 59,se 60,se 61,se 62,se 63,se 64,se 65,se 66,se 67,se 68,se 69,se 70,se 71,se 72,se 73,se 74,se 75,se 76,se 77,se 78,se 79,se 80,undef,undef,undef,undef,undef,undef,undef,undef,undef,undef,undef,undef,undef,undef,undef,undef,undef,undef,undef,undef,undef,undef,undef,undef,undef,undef,undef,undef,undef,undef,undef,undef,undef,undef,undef,undef,undef,undef,undef,undef,undef,undef,undef,undef,undef,undef,undef,undef,undef,undef,undef,undef,undef,undef,undef,undef,undef,undef,undef,undef,undef,undef,undef,undef,undef,undef,undef,undef,undef,undef,undef,undef,undef,undef,undef,undef,undef,undef,undef,undef,undef,undef,undef,undef,undef,undef,undef,undef,undef,undef,undef,undef,undef,undef,undef,undef,undef,undef,undef,undef,undef,undef,undef,undef,undef,undef,undef,undef,undef,undef,undef,undef,undef,undef,undef,undef,undef,undef,undef,undef,undef,undef,undef,undef,undef,undef,undef,undef,undef,undef,undef,undef,undef,undef,undef,undef,undef,undef,undef,undef,undef,undef,undef,undef,undef,undef,undef,undef,undef,undef,undef,undef,undef,undef,undef,undef,undef,undef,undef,undef,undef,undef,undef,undef,undef,undef,undef,undef,undef,undef,undef,undef,undef,undef,undef,undef,undef,undef,undef,undef,undef,undef,undef,undef,undef,undef,undef,undef,undef,undef,undef,undef,undef,undef,undef,undef,undef,undef,undef,undef], []⟩ _) → _ from fun h => h ((fun l : List Value => fun i => l.getD i undef) [_,_,_,_,undef,undef,undef,undef,undef,undef,undef,undef,undef,undef,undef,undef,undef,undef,undef,undef,undef,undef,undef,_,_,_,_,_,_,_,_,_,_,_,_,_,_,_,_,_,_,_,_,_,_,_,_,_,_,_,_,_,_,_,_,_,_,_,_,_,_,_,_,_,_,_,_,_,_,_,_,_,_,_,_,_,_,_,_,_,_])) ?_
      intro se
      dsimp only
      refine wp_abs (fun Q => Gr V5 Q) (Below.refl _ _) ?_
      rintro wk gQ
      replace gU := gU.tr gQ
      replace oL := oL.keep gQ
      replace oA := oA.keep gQ
      replace r2 := r2.grow gQ
      replace r3 := r3.grow gQ
      replace r4 := r4.grow gQ
      replace oW := oW.keep gQ
      replace br8 := br8.grow gQ
      replace oS := oS.keep gQ
      clear gQ
      go_wp2
      go_loopw [12] (fun x wr => Hid (∃ i : Nat, i ≤ L.length ∧ x = .int .i64 i ∧ Gr wk wr)) (fun x _ => L.length - (intOf x).toNat)
      case atStart => exact Lib.hid ⟨0, by omega, rfl, Below.refl _ _⟩
      case round =>
       obtain ⟨i, hi, rfl, gW⟩ := hrel.out
       clear hrel
       refine wp_abs (fun Z => Gr wk Z) gW ?_
       clear gW
       rintro wz gW
       have gR := gW
       replace gU := gU.tr gR
       replace oL := oL.keep gR
       replace oA := oA.keep gR
       replace r2 := r2.grow gR
       replace r3 := r3.grow gR
       replace r4 := r4.grow gR
       replace oW := oW.keep gR
       replace br8 := br8.grow gR
       replace oS := oS.keep gR
       clear gR
       by_cases hlt : i < L.length
       case pos => as_aux_lemma =>
        obtain ⟨lb, lo_, k, c, ha, hx, hbk, hk, hc⟩ := BRow.at br8 hlt
        subst ha
        obtain ⟨⟨k0, k9⟩, ⟨bc0, bc1⟩, hN1, hN2⟩ := BS.out i (k, c) hx
        simp only at k0 k9 bc0 bc1 hN1 hN2
        have LL := BL.out
        obtain ⟨c0_, c1_⟩ := oA.c2
        go_upto_region 10 with fail
        go_cut [138] from 81 to 203 (fun s wx => s = .bool false ∧ Gr wz wx)
        case first =>
         have n1 : ¬ k < 0 := by omega
         have n2 : ¬ k > 9 := by omega
         have n3 : ¬ c < cl := by omega
         have n4 : ¬ c > ch := by omega
         by_cases hi0 : i = 0
         ·have n5 : ¬ (i : Int) > 0 := by omega
          have n5' : ¬ 0 < i := by omega
          clear hx hN1 hN2 hi0
          go_big_quiet (fail)
          go_wp2
          go_meet
          exact ⟨rfl, Gr.drewN (Below.refl _ _) _⟩
         ·have n5 : (i : Int) > 0 := by omega
          have n5' : 0 < i := by omega
          obtain ⟨j, hj⟩ : ∃ j, j + 1 = i := ⟨i - 1, by omega⟩
          have hlj : j < L.length := by omega
          have wj : IntKind.i64.wrap ((i : Int) - 1) = (j : Int) := by rw [IntWalk.i64_in _ (by omega)]; omega
          obtain ⟨_,_, k', c', ha', hx',_, hk', _⟩ := BRow.at br8 hlj
          cases ha'
          have hlt' := BU.out j i (k', c') (k, c) (by omega) hx' hx
          clear hj
          simp only at hlt'
          have n6 : ¬ k ≤ k' := by omega
          clear hx hx' hN1 hN2 hi0 hlt'
          go_big_quiet (fail)
          go_wp2
          go_meet
          exact ⟨rfl, Gr.drewN (Below.refl _ _) _⟩
        case rest =>
         obtain ⟨rfl, gR⟩ := hcut
         clear c0_ c1_
         go_upto_region 12 with fail
         refine wp_abs (fun Q => Gr wz Q) gR ?_
         clear gR
         rintro w1 gQ
         replace gU := gU.tr gQ
         replace oL := oL.keep gQ
         replace oA := oA.keep gQ
         replace r2 := r2.grow gQ
         replace r3 := r3.grow gQ
         replace r4 := r4.grow gQ
         replace oW := oW.keep gQ
         replace br8 := br8.grow gQ
         replace oS := oS.keep gQ
         have hck := gQ.cell hbk hc
         have hkk := gQ.cell hbk hk
         have hbk1 : lb < w1.heap.size := Nat.lt_of_lt_of_le hbk gQ.size
         replace gW := gW.tr gQ
         clear gQ hbk hk hc
         have CC : Hid (Cal2 c c) := Lib.hid (by have := HC.out; unfold Cal2 at this ⊢; omega)
         obtain ⟨L1, hL1⟩ : ∃ l, badL c c H 10 = l := ⟨_, rfl⟩
         have CL1 := Lib.hid (fun pa ta ba pc tc bc v h1 h2 h3 => CG.out c c CC.out pa ta ba pc tc bc v h1 h2 h3)
         have BL1 := Lib.hid (badL_len c c H 10)
         rw [hL1] at CL1 BL1 hN1
         have N1 := Lib.hid hN1
         clear hL1 hN1
         refine (show (∀ sf : Nat → Value, Code.wp Try.prog _ _ ⟨#[se 0,se 1,se 2,se 3,sf 4, .pointer (some ⟨v4, 0, none⟩), .pointer (some ⟨v5, 0, none⟩), .pointer (some ⟨v7, 0, none⟩), .slice (some ⟨lb, lo_, none⟩) L.length bc8, .int .i64 0, .pointer (some ⟨v10, 0, none⟩), .int .i64 fe, .int .i64 i,sf 13,sf 14,sf 15,sf 16,undef,undef,undef,undef,undef,undef,se 23,se 24,se 25,se 26,se 27,se 28,se 29,se 30,se 31,se 32,se 33,se 34,se 35,se 36,se 37,se 38,se 39,se 40,se 41,se 42,se 43,se 44,se 45,se 46,se 47,se 48,se 49,se 50,se 51,se 52,se 53,se 54,se 55,se 56,se 57,se 58,se 59,se 60,se 61,se 62,se 63,se 64,se 65,se 66,se 67,se 68,se 69,se 70,se 71,se 72,se 73,se 74,se 75,se 76,se 77,se 78,se 79,se 80,sf 81,sf 82,sf 83,sf 84,sf 85,sf 86,sf 87,sf 88,sf 89,sf 90,sf 91,sf 92,sf 93,sf 94,sf 95,sf 96,sf 97,sf 98,sf 99,sf 100,sf 101,sf 102,sf 103,sf 104,sf 105,sf 106,sf 107,sf 108,sf 109,sf 110,sf 111,sf 112,sf 113,sf 114,sf 115,sf 116,sf 117,sf 118,sf 119,sf 120,sf 121,sf 122,sf 123,sf 124,sf 125,sf 126,sf 127,sf 128,sf 129,sf 130,sf 131,sf 132,sf 133,sf 134,sf 135,sf 136,sf 137,sf 138,sf 139,sf 140,sf 141,sf 142,sf 143,sf 144,sf 145,sf 146,sf 147,sf 148,sf 149,sf 150,sf 151,sf 152,sf 153,sf 154,sf 155,sf 156,sf 157,sf 158,sf 159,sf 160,sf 161,sf 162,sf 163,sf 164,sf 165,sf 166,sf 167,sf 168,sf 169,sf 170,sf 171,sf 172,sf 173,sf 174,sf 175,sf 176,sf 177,sf 178,sf 179,sf 180,sf 181,sf 182,sf 183,sf 184,sf 185,sf 186,sf 187,sf 188,sf 189,sf 190,sf 191,sf 192,sf 193,sf 194,sf 195,sf 196,sf 197,sf 198,sf 199,sf 200,sf 201,sf 202,sf 203,undef,undef,undef,undef,undef,undef,undef,undef,undef,undef,undef,undef,undef,undef,undef,undef,undef,undef,undef,undef,undef,undef,undef,undef,undef,undef,undef,undef,undef,undef,undef,undef,undef,undef,undef,undef,undef,undef,undef,undef,undef,undef,undef,undef,undef,undef,undef,undef,undef,undef,undef,undef,undef,undef,undef,undef,undef,undef,undef,undef,undef,undef,undef,undef,undef,undef,undef,undef,undef,undef,undef,undef,undef,undef,undef,undef,undef], []⟩ _) → _ from fun h => h ((fun l : List Value => fun i => l.getD i undef) [undef,undef,undef,undef,_,undef,undef,undef,undef,undef,undef,undef,undef,_,_,_,_,undef,undef,undef,undef,undef,undef,undef,undef,undef,undef,undef,undef,undef,undef,undef,undef,undef,undef,undef,undef,undef,undef,undef,undef,undef,undef,undef,undef,undef,undef,undef,undef,undef,undef,undef,undef,undef,undef,undef,undef,undef,undef,undef,undef,undef,undef,undef,undef,undef,undef,undef,undef,undef,undef,undef,undef,undef,undef,undef,undef,undef,undef,undef,undef,_,_,_,_,_,_,_,_,_,_,_,_,_,_,_,_,_,_,_,_,_,_,_,_,_,_,_,_,_,_,_,_,_,_,_,_,_,_,_,_,_,_,_,_,_,_,_,_,_,_,_,_,_,_,_,_,_,_,_,_,_,_,_,_,_,_,_,_,_,_,_,_,_,_,_,_,_,_,_,_,_,_,_,_,_,_,_,_,_,_,_,_,_,_,_,_,_,_,_,_,_,_,_,_,_,_,_,_,_,_,_,_,_,_,_,_,_,_,_,_,_,_,_])) ?_
         intro sf
         dsimp only
         refine wp_region_facts 19 [(1, 0), (5, 3), (5, 4), (6, 5), (7, 6), (10, 8), (10, 9), (11, 10), (12, 11), (13, 7), (13, 12), (14, 1), (14, 2), (14, 13), (15, 14), (16, 15), (17, 15), (18, 16)] (fun x => ⟨#[se 0,se 1,se 2,se 3,sf 4, .pointer (some ⟨v4, 0, none⟩), .pointer (some ⟨v5, 0, none⟩), .pointer (some ⟨v7, 0, none⟩), .slice (some ⟨lb, lo_, none⟩) L.length bc8, .int .i64 0, .pointer (some ⟨v10, 0, none⟩), .int .i64 fe, .int .i64 i, x 18,sf 14,sf 15,sf 16,undef,undef,undef,undef,undef,undef,se 23,se 24,se 25,se 26,se 27,se 28,se 29,se 30,se 31,se 32,se 33,se 34,se 35,se 36,se 37,se 38,se 39,se 40,se 41,se 42,se 43,se 44,se 45,se 46,se 47,se 48,se 49,se 50,se 51,se 52,se 53,se 54,se 55,se 56,se 57,se 58,se 59,se 60,se 61,se 62,se 63,se 64,se 65,se 66,se 67,se 68,se 69,se 70,se 71,se 72,se 73,se 74,se 75,se 76,se 77,se 78,se 79,se 80,sf 81,sf 82,sf 83,sf 84,sf 85,sf 86,sf 87,sf 88,sf 89,sf 90,sf 91,sf 92,sf 93,sf 94,sf 95,sf 96,sf 97,sf 98,sf 99,sf 100,sf 101,sf 102,sf 103,sf 104,sf 105,sf 106,sf 107,sf 108,sf 109,sf 110,sf 111,sf 112,sf 113,sf 114,sf 115,sf 116,sf 117,sf 118,sf 119,sf 120,sf 121,sf 122,sf 123,sf 124,sf 125,sf 126,sf 127,sf 128,sf 129,sf 130,sf 131,sf 132,sf 133,sf 134,sf 135,sf 136,sf 137,sf 138, x 15, x 0, x 1, x 2, x 3, x 4, x 5, x 6, x 7, x 8, x 9, x 10, x 11, x 12, x 13, x 14, x 16, x 17,sf 157,sf 158,sf 159,sf 160,sf 161,sf 162,sf 163,sf 164,sf 165,sf 166,sf 167,sf 168,sf 169,sf 170,sf 171,sf 172,sf 173,sf 174,sf 175,sf 176,sf 177,sf 178,sf 179,sf 180,sf 181,sf 182,sf 183,sf 184,sf 185,sf 186,sf 187,sf 188,sf 189,sf 190,sf 191,sf 192,sf 193,sf 194,sf 195,sf 196,sf 197,sf 198,sf 199,sf 200,sf 201,sf 202,sf 203,undef,undef,undef,undef,undef,undef,undef,undef,undef,undef,undef,undef,undef,undef,undef,undef,undef,undef,undef,undef,undef,undef,undef,undef,undef,undef,undef,undef,undef,undef,undef,undef,undef,undef,undef,undef,undef,undef,undef,undef,undef,undef,undef,undef,undef,undef,undef,undef,undef,undef,undef,undef,undef,undef,undef,undef,undef,undef,undef,undef,undef,undef,undef,undef,undef,undef,undef,undef,undef,undef,undef,undef,undef,undef,undef,undef,undef], []⟩) (fun i => [sf 140,sf 141,sf 142,sf 143,sf 144,sf 145,sf 146,sf 147,sf 148,sf 149,sf 150,sf 151,sf 152,sf 153,sf 154,sf 139,sf 155,sf 156,sf 13].getD i undef) [fun _ x => x = .agg #[.int .i64 30, .slice ka3 4 kc3, .int .i64 hei, .slice ka7 2 kc7, .slice ka11 2 kc11, .int .i64 9, .bool o], fun v x => ∃ naa3 nac3 naa7 nac7 naa11 nac11, x = .agg #[.int .i64 30, .slice naa3 4 nac3, .int .i64 hei, .slice naa7 2 nac7, .slice naa11 2 nac11, .int .i64 9, .bool o] ∧ (IRow v naa3 [a0, a1, a2, a3] ∧ IRow v naa7 [t0, t1] ∧ IRow v naa11 [s0, s1]), fun _ x => x = .agg #[.int .i64 W.ll, .int .i64 W.lh, .int .i64 W.wl, .int .i64 W.wh, .int .i64 W.hl, .int .i64 W.hh, .int .i64 W.ol, .int .i64 W.oh, .int .i64 W.il, .int .i64 W.ih, .bool W.wo], fun _ x => x = .slice (some ⟨lb, lo_, none⟩) L.length bc8, fun _ x => x = .int .i64 i, fun _ x => x = .pointer (some ⟨lb, lo_ + i * 2, none⟩), fun _ x => x = .pointer (some ⟨lb, lo_ + i * 2 + 1, none⟩), fun _ x => x = .int .i64 c, fun _ x => x = .slice (some ⟨lb, lo_, none⟩) L.length bc8, fun _ x => x = .int .i64 i, fun _ x => x = .pointer (some ⟨lb, lo_ + i * 2, none⟩), fun _ x => x = .pointer (some ⟨lb, lo_ + i * 2 + 1, none⟩), fun _ x => x = .int .i64 c, fun _ x => x = .agg #[.int .i64 c, .int .i64 c], fun v x => ∃ da14 dc14, x = .tuple #[.slice da14 L1.length dc14, .int .i64 0] ∧ BRow v da14 L1, fun v x => ∃ da15 dc15, x = .tuple #[.slice da15 L1.length dc15, .int .i64 0] ∧ BRow v da15 L1, fun v x => ∃ da16 dc16, x = .slice da16 L1.length dc16 ∧ BRow v da16 L1, fun _ x => x = .int .i64 0, fun v x => ∃ da18 dc18, x = .slice da18 L1.length dc18 ∧ BRow v da18 L1] (by rfl) (by kernel_rfl) (by kernel_rfl) (by kernel_rfl) (stays_cons (Stays.eq _) (stays_cons ((show Stays (fun v x => ∃ naa3 nac3 naa7 nac7 naa11 nac11, x = .agg #[.int .i64 30, .slice naa3 4 nac3, .int .i64 hei, .slice naa7 2 nac7, .slice naa11 2 nac11, .int .i64 9, .bool o] ∧ (IRow v naa3 [a0, a1, a2, a3] ∧ IRow v naa7 [t0, t1] ∧ IRow v naa11 [s0, s1])) from fun v v' x g ⟨a, b, c, d, e, f, h, r1, r2, r3⟩ => ⟨a, b, c, d, e, f, h, r1.grow g, r2.grow g, r3.grow g⟩)) (stays_cons (Stays.eq _) (stays_cons (Stays.eq _) (stays_cons (Stays.eq _) (stays_cons (Stays.eq _) (stays_cons (Stays.eq _) (stays_cons (Stays.eq _) (stays_cons (Stays.eq _) (stays_cons (Stays.eq _) (stays_cons (Stays.eq _) (stays_cons (Stays.eq _) (stays_cons (Stays.eq _) (stays_cons (Stays.eq _) (stays_cons ((show Stays (fun v x => ∃ da14 dc14, x = .tuple #[.slice da14 L1.length dc14, .int .i64 0] ∧ BRow v da14 L1) from fun v v' x g ⟨a, c, h, r⟩ => ⟨a, c, h, r.grow g⟩)) (stays_cons ((show Stays (fun v x => ∃ da15 dc15, x = .tuple #[.slice da15 L1.length dc15, .int .i64 0] ∧ BRow v da15 L1) from fun v v' x g ⟨a, c, h, r⟩ => ⟨a, c, h, r.grow g⟩)) (stays_cons ((show Stays (fun v x => ∃ da16 dc16, x = .slice da16 L1.length dc16 ∧ BRow v da16 L1) from fun v v' x g ⟨a, c, h, r⟩ => ⟨a, c, h, r.grow g⟩)) (stays_cons (Stays.eq _) (stays_cons ((show Stays (fun v x => ∃ da18 dc18, x = .slice da18 L1.length dc18 ∧ BRow v da18 L1) from fun v v' x g ⟨a, c, h, r⟩ => ⟨a, c, h, r.grow g⟩)) stays_nil))))))))))))))))))) ?step12 ?fin12
         case step12 => as_aux_lemma =>
          rintro i hi x v gv hd K hK
          have hi8 : i = 0 ∨ i = 1 ∨ i = 2 ∨ i = 3 ∨ i = 4 ∨ i = 5 ∨ i = 6 ∨ i = 7 ∨ i = 8 ∨ i = 9 ∨ i = 10 ∨ i = 11 ∨ i = 12 ∨ i = 13 ∨ i = 14 ∨ i = 15 ∨ i = 16 ∨ i = 17 ∨ i = 18 := by omega
          rcases hi8 with rfl | rfl | rfl | rfl | rfl | rfl | rfl | rfl | rfl | rfl | rfl | rfl | rfl | rfl | rfl | rfl | rfl | rfl | rfl
          ·try dsimp only [upd, Nat.reduceBEq, cond_true, cond_false]
           refine wpOp_step rfl (fun K' hK' => ?_)
           rw [if_pos (by rfl)]
           refine wp_load_mid 24 _ rfl v4 0 (by rfl) [.int .i64 30, .slice ka3 4 kc3, .int .i64 hei, .slice ka7 2 kc7, .slice ka11 2 kc11, .int .i64 9, .bool o] _ (fun j u hu => by rw [Nat.zero_add]; exact (oL.keep gv).2 j u hu) Try.underlying24 rfl (by kernel_rfl) ?_
           exact hK' _ _ (hK _ _ (Below.refl _ _) (at_of rfl (rfl)))
          ·obtain ⟨x, rfl⟩ := upd_of (show x 0 = .agg #[.int .i64 30, .slice ka3 4 kc3, .int .i64 hei, .slice ka7 2 kc7, .slice ka11 2 kc11, .int .i64 9, .bool o] from hd 0 _ (by simp) rfl)
           try dsimp only [upd, Nat.reduceBEq, cond_true, cond_false]
           refine wpOp_step rfl (fun K' hK' => ?_)
           go_simp
           refine (own4_any a0 a1 a2 a3 t0 t1 s0 s1 hei o _ _ _ _ _ _ v (r2.grow gv) (r3.grow gv) (r4.grow gv)).mono ?_
           rintro e v' ⟨w3, b3, w7, b7, w11, b11, rfl, hg, r1, r2, r3⟩
           exact hK' _ _ (hK _ _ hg (at_of rfl (⟨_,_,_,_,_,_, rfl, r1, r2, r3⟩)))
          ·try dsimp only [upd, Nat.reduceBEq, cond_true, cond_false]
           refine wpOp_step rfl (fun K' hK' => ?_)
           rw [if_pos (by rfl)]
           refine wp_load_mid 48 _ rfl v7 0 (by rfl) [.int .i64 W.ll, .int .i64 W.lh, .int .i64 W.wl, .int .i64 W.wh, .int .i64 W.hl, .int .i64 W.hh, .int .i64 W.ol, .int .i64 W.oh, .int .i64 W.il, .int .i64 W.ih, .bool W.wo] _ (fun j u hu => by rw [Nat.zero_add]; exact (oW.keep gv).2 j u hu) Try.underlying48 rfl (by kernel_rfl) ?_
           exact hK' _ _ (hK _ _ (Below.refl _ _) (at_of rfl (rfl)))
          ·try dsimp only [upd, Nat.reduceBEq, cond_true, cond_false]
           refine wpOp_step rfl (fun K' hK' => ?_)
           go_simp
           exact hK' _ _ (hK _ _ (Below.refl _ _) (at_of rfl (rfl)))
          ·try dsimp only [upd, Nat.reduceBEq, cond_true, cond_false]
           refine wpOp_step rfl (fun K' hK' => ?_)
           go_simp
           exact hK' _ _ (hK _ _ (Below.refl _ _) (at_of rfl (rfl)))
          ·obtain ⟨x, rfl⟩ := upd_of (show x 3 = .slice (some ⟨lb, lo_, none⟩) L.length bc8 from hd 3 _ (by simp) rfl)
           obtain ⟨x, rfl⟩ := upd_of (show x 4 = .int .i64 i from hd 4 _ (by simp) rfl)
           try dsimp only [upd, Nat.reduceBEq, cond_true, cond_false]
           refine wpOp_step rfl (fun K' hK' => ?_)
           go_simp
           exact hK' _ _ (hK _ _ (Below.refl _ _) (at_of rfl (rfl)))
          ·obtain ⟨x, rfl⟩ := upd_of (show x 5 = .pointer (some ⟨lb, lo_ + i * 2, none⟩) from hd 5 _ (by simp) rfl)
           try dsimp only [upd, Nat.reduceBEq, cond_true, cond_false]
           refine wpOp_step rfl (fun K' hK' => ?_)
           go_simp
           exact hK' _ _ (hK _ _ (Below.refl _ _) (at_of rfl (rfl)))
          ·obtain ⟨x, rfl⟩ := upd_of (show x 6 = .pointer (some ⟨lb, lo_ + i * 2 + 1, none⟩) from hd 6 _ (by simp) rfl)
           try dsimp only [upd, Nat.reduceBEq, cond_true, cond_false]
           refine wpOp_step rfl (fun K' hK' => ?_)
           have q := gv.cell hbk1 hck
           go_simp
           exact hK' _ _ (hK _ _ (Below.refl _ _) (at_of rfl (rfl)))
          ·try dsimp only [upd, Nat.reduceBEq, cond_true, cond_false]
           refine wpOp_step rfl (fun K' hK' => ?_)
           go_simp
           exact hK' _ _ (hK _ _ (Below.refl _ _) (at_of rfl (rfl)))
          ·try dsimp only [upd, Nat.reduceBEq, cond_true, cond_false]
           refine wpOp_step rfl (fun K' hK' => ?_)
           go_simp
           exact hK' _ _ (hK _ _ (Below.refl _ _) (at_of rfl (rfl)))
          ·obtain ⟨x, rfl⟩ := upd_of (show x 8 = .slice (some ⟨lb, lo_, none⟩) L.length bc8 from hd 8 _ (by simp) rfl)
           obtain ⟨x, rfl⟩ := upd_of (show x 9 = .int .i64 i from hd 9 _ (by simp) rfl)
           try dsimp only [upd, Nat.reduceBEq, cond_true, cond_false]
           refine wpOp_step rfl (fun K' hK' => ?_)
           go_simp
           exact hK' _ _ (hK _ _ (Below.refl _ _) (at_of rfl (rfl)))
          ·obtain ⟨x, rfl⟩ := upd_of (show x 10 = .pointer (some ⟨lb, lo_ + i * 2, none⟩) from hd 10 _ (by simp) rfl)
           try dsimp only [upd, Nat.reduceBEq, cond_true, cond_false]
           refine wpOp_step rfl (fun K' hK' => ?_)
           go_simp
           exact hK' _ _ (hK _ _ (Below.refl _ _) (at_of rfl (rfl)))
          ·obtain ⟨x, rfl⟩ := upd_of (show x 11 = .pointer (some ⟨lb, lo_ + i * 2 + 1, none⟩) from hd 11 _ (by simp) rfl)
           try dsimp only [upd, Nat.reduceBEq, cond_true, cond_false]
           refine wpOp_step rfl (fun K' hK' => ?_)
           have q := gv.cell hbk1 hck
           go_simp
           exact hK' _ _ (hK _ _ (Below.refl _ _) (at_of rfl (rfl)))
          ·obtain ⟨x, rfl⟩ := upd_of (show x 7 = .int .i64 c from hd 7 _ (by simp) rfl)
           obtain ⟨x, rfl⟩ := upd_of (show x 12 = .int .i64 c from hd 12 _ (by simp) rfl)
           try dsimp only [upd, Nat.reduceBEq, cond_true, cond_false]
           refine wpOp_step rfl (fun K' hK' => ?_)
           go_simp
           refine (span02_any c c v).mono ?_
           rintro e v' ⟨rfl, hg⟩
           exact hK' _ _ (hK _ _ hg (at_of rfl (rfl)))
          ·obtain ⟨naa3, nac3, naa7, nac7, naa11, nac11, e1, r1_⟩ := hd 1 _ (by simp) rfl
           obtain ⟨x, rfl⟩ := upd_of (show x 1 = .agg #[.int .i64 30, .slice naa3 4 nac3, .int .i64 hei, .slice naa7 2 nac7, .slice naa11 2 nac11, .int .i64 9, .bool o] from e1)
           obtain ⟨x, rfl⟩ := upd_of (show x 2 = .agg #[.int .i64 W.ll, .int .i64 W.lh, .int .i64 W.wl, .int .i64 W.wh, .int .i64 W.hl, .int .i64 W.hh, .int .i64 W.ol, .int .i64 W.oh, .int .i64 W.il, .int .i64 W.ih, .bool W.wo] from hd 2 _ (by simp) rfl)
           obtain ⟨x, rfl⟩ := upd_of (show x 13 = .agg #[.int .i64 c, .int .i64 c] from hd 13 _ (by simp) rfl)
           try dsimp only [upd, Nat.reduceBEq, cond_true, cond_false]
           refine wpOp_step rfl (fun K' hK' => ?_)
           go_simp
           refine (CL1.out _ _ _ _ _ _ v r1_.1 r1_.2.1 r1_.2.2).mono ?_
           rintro e v' ⟨a9, c9, rfl, hg, r⟩
           exact hK' _ _ (hK _ _ hg (at_of rfl (⟨_,_, rfl, r⟩)))
          ·obtain ⟨da14, dc14, e14, dr14⟩ := hd 14 _ (by simp) rfl
           obtain ⟨x, rfl⟩ := upd_of (show x 14 = .tuple #[.slice da14 L1.length dc14, .int .i64 0] from e14)
           try dsimp only [upd, Nat.reduceBEq, cond_true, cond_false]
           refine wpOp_step rfl (fun K' hK' => ?_)
           go_simp
           exact hK' _ _ (hK _ _ (Below.refl _ _) (at_of rfl (⟨_,_, rfl, dr14⟩)))
          ·obtain ⟨da15, dc15, e15, dr15⟩ := hd 15 _ (by simp) rfl
           obtain ⟨x, rfl⟩ := upd_of (show x 15 = .tuple #[.slice da15 L1.length dc15, .int .i64 0] from e15)
           try dsimp only [upd, Nat.reduceBEq, cond_true, cond_false]
           refine wpOp_step rfl (fun K' hK' => ?_)
           go_simp
           exact hK' _ _ (hK _ _ (Below.refl _ _) (at_of rfl (⟨_,_, rfl, dr15⟩)))
          ·obtain ⟨da15, dc15, e15, dr15⟩ := hd 15 _ (by simp) rfl
           obtain ⟨x, rfl⟩ := upd_of (show x 15 = .tuple #[.slice da15 L1.length dc15, .int .i64 0] from e15)
           try dsimp only [upd, Nat.reduceBEq, cond_true, cond_false]
           refine wpOp_step rfl (fun K' hK' => ?_)
           go_simp
           exact hK' _ _ (hK _ _ (Below.refl _ _) (at_of rfl (rfl)))
          ·obtain ⟨da16, dc16, e16, dr16⟩ := hd 16 _ (by simp) rfl
           obtain ⟨x, rfl⟩ := upd_of (show x 16 = .slice da16 L1.length dc16 from e16)
           try dsimp only [upd, Nat.reduceBEq, cond_true, cond_false]
           refine wpOp_step rfl (fun K' hK' => ?_)
           go_simp
           exact hK' _ _ (hK _ _ (Below.refl _ _) (at_of rfl (⟨_,_, rfl, dr16⟩)))
         case fin12 =>
          rintro x v gv hd
          obtain ⟨x, rfl⟩ := upd_of (show x 17 = .int .i64 0 from hd 17 _ (by omega) rfl)
          obtain ⟨da18, dc18, e18, dr18⟩ := hd 18 _ (by omega) rfl
          obtain ⟨x, rfl⟩ := upd_of (show x 18 = .slice da18 L1.length dc18 from e18)
          clear hd
          show wpList Try.prog _ _ (List.drop 19 _) (⟨#[_,_,_,_,_,_,_,_,_,_,_,_,_, .slice da18 L1.length dc18,_,_,_,_,_,_,_,_,_,_,_,_,_,_,_,_,_,_,_,_,_,_,_,_,_,_,_,_,_,_,_,_,_,_,_,_,_,_,_,_,_,_,_,_,_,_,_,_,_,_,_,_,_,_,_,_,_,_,_,_,_,_,_,_,_,_,_,_,_,_,_,_,_,_,_,_,_,_,_,_,_,_,_,_,_,_,_,_,_,_,_,_,_,_,_,_,_,_,_,_,_,_,_,_,_,_,_,_,_,_,_,_,_,_,_,_,_,_,_,_,_,_,_,_,_, x 15, x 0, x 1, x 2, x 3, x 4, x 5, x 6, x 7, x 8, x 9, x 10, x 11, x 12, x 13, x 14, x 16, .int .i64 0,_,_,_,_,_,_,_,_,_,_,_,_,_,_,_,_,_,_,_,_,_,_,_,_,_,_,_,_,_,_,_,_,_,_,_,_,_,_,_,_,_,_,_,_,_,_,_,_,_,_,_,_,_,_,_,_,_,_,_,_,_,_,_,_,_,_,_,_,_,_,_,_,_,_,_,_,_,_,_,_,_,_,_,_,_,_,_,_,_,_,_,_,_,_,_,_,_,_,_,_,_,_,_,_,_,_,_,_,_,_,_,_,_,_,_,_,_,_,_,_,_,_,_,_], []⟩ : Act) v
          simp only [List.drop_succ_cons, List.drop_zero]
          replace gU := gU.tr gv
          replace oL := oL.keep gv
          replace oA := oA.keep gv
          replace r2 := r2.grow gv
          replace r3 := r3.grow gv
          replace r4 := r4.grow gv
          replace oW := oW.keep gv
          replace br8 := br8.grow gv
          replace oS := oS.keep gv
          have hck := gv.cell hbk1 hck
          have hkk := gv.cell hbk1 hkk
          have hbk2 : lb < v.heap.size := Nat.lt_of_lt_of_le hbk1 gv.size
          replace gW := gW.tr gv
          clear gv e18 hbk1
          go_upto_region 15 with (go_at_call 45; refine (named_any L1 BL1.out k _ _ _ dr18).mono ?_; rintro e w9 ⟨rfl, g9⟩; rw [N1.out])
          refine wp_abs (fun Q => Gr v Q) g9 ?_
          clear g9
          rintro w2 gQ
          replace gU := gU.tr gQ
          replace oL := oL.keep gQ
          replace oA := oA.keep gQ
          replace r2 := r2.grow gQ
          replace r3 := r3.grow gQ
          replace r4 := r4.grow gQ
          replace oW := oW.keep gQ
          replace br8 := br8.grow gQ
          replace oS := oS.keep gQ
          have hck := gQ.cell hbk2 hck
          have hkk := gQ.cell hbk2 hkk
          have hbk3 : lb < w2.heap.size := Nat.lt_of_lt_of_le hbk2 gQ.size
          replace gW := gW.tr gQ
          clear gQ hbk2 dr18
          obtain ⟨c0_, c1_⟩ := oA.c2
          by_cases hgt : c > cl
          case neg =>
           go_quiet (fail)
           go_wp2
           go_roundw
           case rel => exact Lib.hid ⟨i + 1, by omega, by go_num, gW.tr (Gr.drewN (Below.refl _ _) _)⟩
           case measure => simp [intOf]; omega
          case pos =>
           go_quiet (fail)
           clear c0_ c1_
           go_upto_region 16 with fail
           refine wp_abs (fun Q => Gr w2 Q) (Gr.drewN (Below.refl _ _) _) ?_
           rintro w3_ gQ
           replace gU := gU.tr gQ
           replace oL := oL.keep gQ
           replace oA := oA.keep gQ
           replace r2 := r2.grow gQ
           replace r3 := r3.grow gQ
           replace r4 := r4.grow gQ
           replace oW := oW.keep gQ
           replace br8 := br8.grow gQ
           replace oS := oS.keep gQ
           have hck := gQ.cell hbk3 hck
           have hkk := gQ.cell hbk3 hkk
           have hbk4 : lb < w3_.heap.size := Nat.lt_of_lt_of_le hbk3 gQ.size
           replace gW := gW.tr gQ
           clear gQ hbk3
           obtain ⟨cc1, hcc1⟩ : ∃ z, c - 1 = z := ⟨_, rfl⟩
           have wc1 : IntKind.i64.wrap (c - 1) = cc1 := by rw [IntWalk.i64_in _ (by omega)]; exact hcc1
           have CD : Hid (Cal2 cl cc1) := Lib.hid (by have := HC.out; unfold Cal2 at this ⊢; omega)
           have hN2' := hN2 hgt
           rw [hcc1] at hN2'
           obtain ⟨L2, hL2⟩ : ∃ l, badL cl cc1 H 10 = l := ⟨_, rfl⟩
           have CL2 := Lib.hid (fun pa ta ba pc tc bc v h1 h2 h3 => CG.out cl cc1 CD.out pa ta ba pc tc bc v h1 h2 h3)
           have BL2 := Lib.hid (badL_len cl cc1 H 10)
           rw [hL2] at CL2 BL2 hN2'
           have N2 := Lib.hid hN2'
           clear hL2 hN2 hN2' hcc1
           refine (show (∀ sg : Nat → Value, Code.wp Try.prog _ _ ⟨#[se 0,se 1,se 2,se 3,sg 4, .pointer (some ⟨v4, 0, none⟩), .pointer (some ⟨v5, 0, none⟩), .pointer (some ⟨v7, 0, none⟩), .slice (some ⟨lb, lo_, none⟩) L.length bc8, .int .i64 0, .pointer (some ⟨v10, 0, none⟩), .int .i64 fe, .int .i64 i,sg 13,sg 14,sg 15,sg 16,undef,undef,undef,undef,undef,undef,se 23,se 24,se 25,se 26,se 27,se 28,se 29,se 30,se 31,se 32,se 33,se 34,se 35,se 36,se 37,se 38,se 39,se 40,se 41,se 42,se 43,se 44,se 45,se 46,se 47,se 48,se 49,se 50,se 51,se 52,se 53,se 54,se 55,se 56,se 57,se 58,se 59,se 60,se 61,se 62,se 63,se 64,se 65,se 66,se 67,se 68,se 69,se 70,se 71,se 72,se 73,se 74,se 75,se 76,se 77,se 78,se 79,se 80,sg 81,sg 82,sg 83,sg 84,sg 85,sg 86,sg 87,sg 88,sg 89,sg 90,sg 91,sg 92,sg 93,sg 94,sg 95,sg 96,sg 97,sg 98,sg 99,sg 100,sg 101,sg 102,sg 103,sg 104,sg 105,sg 106,sg 107,sg 108,sg 109,sg 110,sg 111,sg 112,sg 113,sg 114,sg 115,sg 116,sg 117,sg 118,sg 119,sg 120,sg 121,sg 122,sg 123,sg 124,sg 125,sg 126,sg 127,sg 128,sg 129,sg 130,sg 131,sg 132,sg 133,sg 134,sg 135,sg 136,sg 137,sg 138,sg 139,sg 140,sg 141,sg 142,sg 143,sg 144,sg 145,sg 146,sg 147,sg 148,sg 149,sg 150,sg 151,sg 152,sg 153,sg 154,sg 155,sg 156,sg 157,sg 158,sg 159,sg 160,sg 161,sg 162,sg 163,sg 164,sg 165,sg 166,sg 167,sg 168,sg 169,sg 170,sg 171,sg 172,sg 173,sg 174,sg 175,sg 176,sg 177,sg 178,sg 179,sg 180,sg 181,sg 182,sg 183,sg 184,sg 185,sg 186,sg 187,sg 188,sg 189,sg 190,sg 191,sg 192,sg 193,sg 194,sg 195,sg 196,sg 197,sg 198,sg 199,sg 200,sg 201,sg 202,sg 203,undef,undef,undef,undef,undef,undef,undef,undef,undef,undef,undef,undef,undef,undef,undef,undef,undef,undef,undef,undef,undef,undef,undef,undef,undef,undef,undef,undef,undef,undef,undef,undef,undef,undef,undef,undef,undef,undef,undef,undef,undef,undef,undef,undef,undef,undef,undef,undef,undef,undef,undef,undef,undef,undef,undef,undef,undef,undef,undef,undef,undef,undef,undef,undef,undef,undef,undef,undef,undef,undef,undef,undef,undef,undef,undef,undef,undef], []⟩ _) → _ from fun h => h ((fun l : List Value => fun i => l.getD i undef) [undef,undef,undef,undef,_,undef,undef,undef,undef,undef,undef,undef,undef,_,_,_,_,undef,undef,undef,undef,undef,undef,undef,undef,undef,undef,undef,undef,undef,undef,undef,undef,undef,undef,undef,undef,undef,undef,undef,undef,undef,undef,undef,undef,undef,undef,undef,undef,undef,undef,undef,undef,undef,undef,undef,undef,undef,undef,undef,undef,undef,undef,undef,undef,undef,undef,undef,undef,undef,undef,undef,undef,undef,undef,undef,undef,undef,undef,undef,undef,_,_,_,_,_,_,_,_,_,_,_,_,_,_,_,_,_,_,_,_,_,_,_,_,_,_,_,_,_,_,_,_,_,_,_,_,_,_,_,_,_,_,_,_,_,_,_,_,_,_,_,_,_,_,_,_,_,_,_,_,_,_,_,_,_,_,_,_,_,_,_,_,_,_,_,_,_,_,_,_,_,_,_,_,_,_,_,_,_,_,_,_,_,_,_,_,_,_,_,_,_,_,_,_,_,_,_,_,_,_,_,_,_,_,_,_,_,_,_,_,_,_,_])) ?_
           intro sg
           dsimp only
           refine wp_region_facts 17 [(1, 0), (4, 3), (7, 5), (7, 6), (8, 7), (9, 8), (10, 9), (11, 4), (11, 10), (12, 1), (12, 2), (12, 11), (13, 12), (14, 13), (15, 13), (16, 14)] (fun x => ⟨#[se 0,se 1,se 2,se 3,sg 4, .pointer (some ⟨v4, 0, none⟩), .pointer (some ⟨v5, 0, none⟩), .pointer (some ⟨v7, 0, none⟩), .slice (some ⟨lb, lo_, none⟩) L.length bc8, .int .i64 0, .pointer (some ⟨v10, 0, none⟩), .int .i64 fe, .int .i64 i,sg 13,sg 14, x 16,sg 16,undef,undef,undef,undef,undef,undef,se 23,se 24,se 25,se 26,se 27,se 28,se 29,se 30,se 31,se 32,se 33,se 34,se 35,se 36,se 37,se 38,se 39,se 40,se 41,se 42,se 43,se 44,se 45,se 46,se 47,se 48,se 49,se 50,se 51,se 52,se 53,se 54,se 55,se 56,se 57,se 58,se 59,se 60,se 61,se 62,se 63,se 64,se 65,se 66,se 67,se 68,se 69,se 70,se 71,se 72,se 73,se 74,se 75,se 76,se 77,se 78,se 79,se 80,sg 81,sg 82,sg 83,sg 84,sg 85,sg 86,sg 87,sg 88,sg 89,sg 90,sg 91,sg 92,sg 93,sg 94,sg 95,sg 96,sg 97,sg 98,sg 99,sg 100,sg 101,sg 102,sg 103,sg 104,sg 105,sg 106,sg 107,sg 108,sg 109,sg 110,sg 111,sg 112,sg 113,sg 114,sg 115,sg 116,sg 117,sg 118,sg 119,sg 120,sg 121,sg 122,sg 123,sg 124,sg 125,sg 126,sg 127,sg 128,sg 129,sg 130,sg 131,sg 132,sg 133,sg 134,sg 135,sg 136,sg 137,sg 138,sg 139,sg 140,sg 141,sg 142,sg 143,sg 144,sg 145,sg 146,sg 147,sg 148,sg 149,sg 150,sg 151,sg 152,sg 153,sg 154,sg 155,sg 156,sg 157,sg 158,sg 159,sg 160,sg 161,sg 162,sg 163,sg 164,sg 165,sg 166,sg 167,sg 168,sg 169,sg 170,sg 171,sg 172,sg 173,sg 174,sg 175,sg 176, x 13, x 0, x 1, x 2, x 3, x 4, x 5, x 6, x 7, x 8, x 9, x 10, x 11, x 12, x 14, x 15,sg 193,sg 194,sg 195,sg 196,sg 197,sg 198,sg 199,sg 200,sg 201,sg 202,sg 203,undef,undef,undef,undef,undef,undef,undef,undef,undef,undef,undef,undef,undef,undef,undef,undef,undef,undef,undef,undef,undef,undef,undef,undef,undef,undef,undef,undef,undef,undef,undef,undef,undef,undef,undef,undef,undef,undef,undef,undef,undef,undef,undef,undef,undef,undef,undef,undef,undef,undef,undef,undef,undef,undef,undef,undef,undef,undef,undef,undef,undef,undef,undef,undef,undef,undef,undef,undef,undef,undef,undef,undef,undef,undef,undef,undef,undef], []⟩) (fun i => [sg 178,sg 179,sg 180,sg 181,sg 182,sg 183,sg 184,sg 185,sg 186,sg 187,sg 188,sg 189,sg 190,sg 177,sg 191,sg 192,sg 15].getD i undef) [fun _ x => x = .agg #[.int .i64 30, .slice ka3 4 kc3, .int .i64 hei, .slice ka7 2 kc7, .slice ka11 2 kc11, .int .i64 9, .bool o], fun v x => ∃ naa3 nac3 naa7 nac7 naa11 nac11, x = .agg #[.int .i64 30, .slice naa3 4 nac3, .int .i64 hei, .slice naa7 2 nac7, .slice naa11 2 nac11, .int .i64 9, .bool o] ∧ (IRow v naa3 [a0, a1, a2, a3] ∧ IRow v naa7 [t0, t1] ∧ IRow v naa11 [s0, s1]), fun _ x => x = .agg #[.int .i64 W.ll, .int .i64 W.lh, .int .i64 W.wl, .int .i64 W.wh, .int .i64 W.hl, .int .i64 W.hh, .int .i64 W.ol, .int .i64 W.oh, .int .i64 W.il, .int .i64 W.ih, .bool W.wo], fun _ x => x = .pointer (some ⟨v5, 0, none⟩), fun _ x => x = .int .i64 cl, fun _ x => x = .slice (some ⟨lb, lo_, none⟩) L.length bc8, fun _ x => x = .int .i64 i, fun _ x => x = .pointer (some ⟨lb, lo_ + i * 2, none⟩), fun _ x => x = .pointer (some ⟨lb, lo_ + i * 2 + 1, none⟩), fun _ x => x = .int .i64 c, fun _ x => x = .int .i64 cc1, fun _ x => x = .agg #[.int .i64 cl, .int .i64 cc1], fun v x => ∃ ga12 gc12, x = .tuple #[.slice ga12 L2.length gc12, .int .i64 0] ∧ BRow v ga12 L2, fun v x => ∃ ga13 gc13, x = .tuple #[.slice ga13 L2.length gc13, .int .i64 0] ∧ BRow v ga13 L2, fun v x => ∃ ga14 gc14, x = .slice ga14 L2.length gc14 ∧ BRow v ga14 L2, fun _ x => x = .int .i64 0, fun v x => ∃ ga16 gc16, x = .slice ga16 L2.length gc16 ∧ BRow v ga16 L2] (by rfl) (by kernel_rfl) (by kernel_rfl) (by kernel_rfl) (stays_cons (Stays.eq _) (stays_cons ((show Stays (fun v x => ∃ naa3 nac3 naa7 nac7 naa11 nac11, x = .agg #[.int .i64 30, .slice naa3 4 nac3, .int .i64 hei, .slice naa7 2 nac7, .slice naa11 2 nac11, .int .i64 9, .bool o] ∧ (IRow v naa3 [a0, a1, a2, a3] ∧ IRow v naa7 [t0, t1] ∧ IRow v naa11 [s0, s1])) from fun v v' x g ⟨a, b, c, d, e, f, h, r1, r2, r3⟩ => ⟨a, b, c, d, e, f, h, r1.grow g, r2.grow g, r3.grow g⟩)) (stays_cons (Stays.eq _) (stays_cons (Stays.eq _) (stays_cons (Stays.eq _) (stays_cons (Stays.eq _) (stays_cons (Stays.eq _) (stays_cons (Stays.eq _) (stays_cons (Stays.eq _) (stays_cons (Stays.eq _) (stays_cons (Stays.eq _) (stays_cons (Stays.eq _) (stays_cons ((show Stays (fun v x => ∃ ga12 gc12, x = .tuple #[.slice ga12 L2.length gc12, .int .i64 0] ∧ BRow v ga12 L2) from fun v v' x g ⟨a, c, h, r⟩ => ⟨a, c, h, r.grow g⟩)) (stays_cons ((show Stays (fun v x => ∃ ga13 gc13, x = .tuple #[.slice ga13 L2.length gc13, .int .i64 0] ∧ BRow v ga13 L2) from fun v v' x g ⟨a, c, h, r⟩ => ⟨a, c, h, r.grow g⟩)) (stays_cons ((show Stays (fun v x => ∃ ga14 gc14, x = .slice ga14 L2.length gc14 ∧ BRow v ga14 L2) from fun v v' x g ⟨a, c, h, r⟩ => ⟨a, c, h, r.grow g⟩)) (stays_cons (Stays.eq _) (stays_cons ((show Stays (fun v x => ∃ ga16 gc16, x = .slice ga16 L2.length gc16 ∧ BRow v ga16 L2) from fun v v' x g ⟨a, c, h, r⟩ => ⟨a, c, h, r.grow g⟩)) stays_nil))))))))))))))))) ?step16 ?fin16
           case step16 => as_aux_lemma =>
            rintro i hi x v gv hd K hK
            have hi8 : i = 0 ∨ i = 1 ∨ i = 2 ∨ i = 3 ∨ i = 4 ∨ i = 5 ∨ i = 6 ∨ i = 7 ∨ i = 8 ∨ i = 9 ∨ i = 10 ∨ i = 11 ∨ i = 12 ∨ i = 13 ∨ i = 14 ∨ i = 15 ∨ i = 16 := by omega
            rcases hi8 with rfl | rfl | rfl | rfl | rfl | rfl | rfl | rfl | rfl | rfl | rfl | rfl | rfl | rfl | rfl | rfl | rfl
            ·try dsimp only [upd, Nat.reduceBEq, cond_true, cond_false]
             refine wpOp_step rfl (fun K' hK' => ?_)
             rw [if_pos (by rfl)]
             refine wp_load_mid 24 _ rfl v4 0 (by rfl) [.int .i64 30, .slice ka3 4 kc3, .int .i64 hei, .slice ka7 2 kc7, .slice ka11 2 kc11, .int .i64 9, .bool o] _ (fun j u hu => by rw [Nat.zero_add]; exact (oL.keep gv).2 j u hu) Try.underlying24 rfl (by kernel_rfl) ?_
             exact hK' _ _ (hK _ _ (Below.refl _ _) (at_of rfl (rfl)))
            ·obtain ⟨x, rfl⟩ := upd_of (show x 0 = .agg #[.int .i64 30, .slice ka3 4 kc3, .int .i64 hei, .slice ka7 2 kc7, .slice ka11 2 kc11, .int .i64 9, .bool o] from hd 0 _ (by simp) rfl)
             try dsimp only [upd, Nat.reduceBEq, cond_true, cond_false]
             refine wpOp_step rfl (fun K' hK' => ?_)
             go_simp
             refine (own4_any a0 a1 a2 a3 t0 t1 s0 s1 hei o _ _ _ _ _ _ v (r2.grow gv) (r3.grow gv) (r4.grow gv)).mono ?_
             rintro e v' ⟨w3, b3, w7, b7, w11, b11, rfl, hg, r1, r2, r3⟩
             exact hK' _ _ (hK _ _ hg (at_of rfl (⟨_,_,_,_,_,_, rfl, r1, r2, r3⟩)))
            ·try dsimp only [upd, Nat.reduceBEq, cond_true, cond_false]
             refine wpOp_step rfl (fun K' hK' => ?_)
             rw [if_pos (by rfl)]
             refine wp_load_mid 48 _ rfl v7 0 (by rfl) [.int .i64 W.ll, .int .i64 W.lh, .int .i64 W.wl, .int .i64 W.wh, .int .i64 W.hl, .int .i64 W.hh, .int .i64 W.ol, .int .i64 W.oh, .int .i64 W.il, .int .i64 W.ih, .bool W.wo] _ (fun j u hu => by rw [Nat.zero_add]; exact (oW.keep gv).2 j u hu) Try.underlying48 rfl (by kernel_rfl) ?_
             exact hK' _ _ (hK _ _ (Below.refl _ _) (at_of rfl (rfl)))
            ·try dsimp only [upd, Nat.reduceBEq, cond_true, cond_false]
             refine wpOp_step rfl (fun K' hK' => ?_)
             go_simp
             exact hK' _ _ (hK _ _ (Below.refl _ _) (at_of rfl (rfl)))
            ·obtain ⟨x, rfl⟩ := upd_of (show x 3 = .pointer (some ⟨v5, 0, none⟩) from hd 3 _ (by simp) rfl)
             try dsimp only [upd, Nat.reduceBEq, cond_true, cond_false]
             refine wpOp_step rfl (fun K' hK' => ?_)
             have q := (oA.keep gv).2 0 _ rfl
             go_simp
             exact hK' _ _ (hK _ _ (Below.refl _ _) (at_of rfl (rfl)))
            ·try dsimp only [upd, Nat.reduceBEq, cond_true, cond_false]
             refine wpOp_step rfl (fun K' hK' => ?_)
             go_simp
             exact hK' _ _ (hK _ _ (Below.refl _ _) (at_of rfl (rfl)))
            ·try dsimp only [upd, Nat.reduceBEq, cond_true, cond_false]
             refine wpOp_step rfl (fun K' hK' => ?_)
             go_simp
             exact hK' _ _ (hK _ _ (Below.refl _ _) (at_of rfl (rfl)))
            ·obtain ⟨x, rfl⟩ := upd_of (show x 5 = .slice (some ⟨lb, lo_, none⟩) L.length bc8 from hd 5 _ (by simp) rfl)
             obtain ⟨x, rfl⟩ := upd_of (show x 6 = .int .i64 i from hd 6 _ (by simp) rfl)
             try dsimp only [upd, Nat.reduceBEq, cond_true, cond_false]
             refine wpOp_step rfl (fun K' hK' => ?_)
             go_simp
             exact hK' _ _ (hK _ _ (Below.refl _ _) (at_of rfl (rfl)))
            ·obtain ⟨x, rfl⟩ := upd_of (show x 7 = .pointer (some ⟨lb, lo_ + i * 2, none⟩) from hd 7 _ (by simp) rfl)
             try dsimp only [upd, Nat.reduceBEq, cond_true, cond_false]
             refine wpOp_step rfl (fun K' hK' => ?_)
             go_simp
             exact hK' _ _ (hK _ _ (Below.refl _ _) (at_of rfl (rfl)))
            ·obtain ⟨x, rfl⟩ := upd_of (show x 8 = .pointer (some ⟨lb, lo_ + i * 2 + 1, none⟩) from hd 8 _ (by simp) rfl)
             try dsimp only [upd, Nat.reduceBEq, cond_true, cond_false]
             refine wpOp_step rfl (fun K' hK' => ?_)
             have q := gv.cell hbk4 hck
             go_simp
             exact hK' _ _ (hK _ _ (Below.refl _ _) (at_of rfl (rfl)))
            ·obtain ⟨x, rfl⟩ := upd_of (show x 9 = .int .i64 c from hd 9 _ (by simp) rfl)
             try dsimp only [upd, Nat.reduceBEq, cond_true, cond_false]
             refine wpOp_step rfl (fun K' hK' => ?_)
             go_simp
             exact hK' _ _ (hK _ _ (Below.refl _ _) (at_of rfl (rfl)))
            ·obtain ⟨x, rfl⟩ := upd_of (show x 4 = .int .i64 cl from hd 4 _ (by simp) rfl)
             obtain ⟨x, rfl⟩ := upd_of (show x 10 = .int .i64 cc1 from hd 10 _ (by simp) rfl)
             try dsimp only [upd, Nat.reduceBEq, cond_true, cond_false]
             refine wpOp_step rfl (fun K' hK' => ?_)
             go_simp
             refine (span02_any cl cc1 v).mono ?_
             rintro e v' ⟨rfl, hg⟩
             exact hK' _ _ (hK _ _ hg (at_of rfl (rfl)))
            ·obtain ⟨naa3, nac3, naa7, nac7, naa11, nac11, e1, r1_⟩ := hd 1 _ (by simp) rfl
             obtain ⟨x, rfl⟩ := upd_of (show x 1 = .agg #[.int .i64 30, .slice naa3 4 nac3, .int .i64 hei, .slice naa7 2 nac7, .slice naa11 2 nac11, .int .i64 9, .bool o] from e1)
             obtain ⟨x, rfl⟩ := upd_of (show x 2 = .agg #[.int .i64 W.ll, .int .i64 W.lh, .int .i64 W.wl, .int .i64 W.wh, .int .i64 W.hl, .int .i64 W.hh, .int .i64 W.ol, .int .i64 W.oh, .int .i64 W.il, .int .i64 W.ih, .bool W.wo] from hd 2 _ (by simp) rfl)
             obtain ⟨x, rfl⟩ := upd_of (show x 11 = .agg #[.int .i64 cl, .int .i64 cc1] from hd 11 _ (by simp) rfl)
             try dsimp only [upd, Nat.reduceBEq, cond_true, cond_false]
             refine wpOp_step rfl (fun K' hK' => ?_)
             go_simp
             refine (CL2.out _ _ _ _ _ _ v r1_.1 r1_.2.1 r1_.2.2).mono ?_
             rintro e v' ⟨a9, c9, rfl, hg, r⟩
             exact hK' _ _ (hK _ _ hg (at_of rfl (⟨_,_, rfl, r⟩)))
            ·obtain ⟨ga12, gc12, e12, gr12⟩ := hd 12 _ (by simp) rfl
             obtain ⟨x, rfl⟩ := upd_of (show x 12 = .tuple #[.slice ga12 L2.length gc12, .int .i64 0] from e12)
             try dsimp only [upd, Nat.reduceBEq, cond_true, cond_false]
             refine wpOp_step rfl (fun K' hK' => ?_)
             go_simp
             exact hK' _ _ (hK _ _ (Below.refl _ _) (at_of rfl (⟨_,_, rfl, gr12⟩)))
            ·obtain ⟨ga13, gc13, e13, gr13⟩ := hd 13 _ (by simp) rfl
             obtain ⟨x, rfl⟩ := upd_of (show x 13 = .tuple #[.slice ga13 L2.length gc13, .int .i64 0] from e13)
             try dsimp only [upd, Nat.reduceBEq, cond_true, cond_false]
             refine wpOp_step rfl (fun K' hK' => ?_)
             go_simp
             exact hK' _ _ (hK _ _ (Below.refl _ _) (at_of rfl (⟨_,_, rfl, gr13⟩)))
            ·obtain ⟨ga13, gc13, e13, gr13⟩ := hd 13 _ (by simp) rfl
             obtain ⟨x, rfl⟩ := upd_of (show x 13 = .tuple #[.slice ga13 L2.length gc13, .int .i64 0] from e13)
             try dsimp only [upd, Nat.reduceBEq, cond_true, cond_false]
             refine wpOp_step rfl (fun K' hK' => ?_)
             go_simp
             exact hK' _ _ (hK _ _ (Below.refl _ _) (at_of rfl (rfl)))
            ·obtain ⟨ga14, gc14, e14, gr14⟩ := hd 14 _ (by simp) rfl
             obtain ⟨x, rfl⟩ := upd_of (show x 14 = .slice ga14 L2.length gc14 from e14)
             try dsimp only [upd, Nat.reduceBEq, cond_true, cond_false]
             refine wpOp_step rfl (fun K' hK' => ?_)
             go_simp
             exact hK' _ _ (hK _ _ (Below.refl _ _) (at_of rfl (⟨_,_, rfl, gr14⟩)))
           case fin16 =>
            rintro x v gv hd
            obtain ⟨x, rfl⟩ := upd_of (show x 15 = .int .i64 0 from hd 15 _ (by omega) rfl)
            obtain ⟨ga16, gc16, e16, gr16⟩ := hd 16 _ (by omega) rfl
            obtain ⟨x, rfl⟩ := upd_of (show x 16 = .slice ga16 L2.length gc16 from e16)
            clear hd
            show wpList Try.prog _ _ (List.drop 17 _) (⟨#[_,_,_,_,_,_,_,_,_,_,_,_,_,_,_, .slice ga16 L2.length gc16,_,_,_,_,_,_,_,_,_,_,_,_,_,_,_,_,_,_,_,_,_,_,_,_,_,_,_,_,_,_,_,_,_,_,_,_,_,_,_,_,_,_,_,_,_,_,_,_,_,_,_,_,_,_,_,_,_,_,_,_,_,_,_,_,_,_,_,_,_,_,_,_,_,_,_,_,_,_,_,_,_,_,_,_,_,_,_,_,_,_,_,_,_,_,_,_,_,_,_,_,_,_,_,_,_,_,_,_,_,_,_,_,_,_,_,_,_,_,_,_,_,_,_,_,_,_,_,_,_,_,_,_,_,_,_,_,_,_,_,_,_,_,_,_,_,_,_,_,_,_,_,_,_,_,_,_,_,_,_,_,_, x 13, x 0, x 1, x 2, x 3, x 4, x 5, x 6, x 7, x 8, x 9, x 10, x 11, x 12, x 14, .int .i64 0,_,_,_,_,_,_,_,_,_,_,_,_,_,_,_,_,_,_,_,_,_,_,_,_,_,_,_,_,_,_,_,_,_,_,_,_,_,_,_,_,_,_,_,_,_,_,_,_,_,_,_,_,_,_,_,_,_,_,_,_,_,_,_,_,_,_,_,_,_,_,_,_,_,_,_,_,_,_,_,_,_,_,_,_,_,_,_,_], []⟩ : Act) v
            simp only [List.drop_succ_cons, List.drop_zero]
            have hkk := gv.cell hbk4 hkk
            replace gW := gW.tr gv
            clear gv e16 hbk4
            go_wp2_with (go_at_call 45; refine (named_any L2 BL2.out k _ _ _ gr16).mono ?_; rintro e w9 ⟨rfl, g9⟩; rw [N2.out])
            go_roundw
            case rel => exact Lib.hid ⟨i + 1, by omega, by go_num, gW.tr g9⟩
            case measure => simp [intOf]; omega
       case neg =>
        clear hi gW BC BS BU
        obtain ⟨c2_, c3_⟩ := oS.c2
        have hd1 := hd.out
        clear hd
        rcases hd1 with ⟨e1, e2, e3, e4⟩ | ⟨e1, e2, e3, e4⟩
        case inr =>
         subst e1 e2 e3
         clear e4
         go_wp2_with (first | (go_at_call 15; refine (known_any _).mono ?_; rintro e w10 ⟨rfl, g10⟩))
         go_ret
         exact ⟨rfl, gU.tr g10⟩
        subst e1
        have hcb := calTo_bd H 10
        have HM := Lib.hid (fun (a b : Int) => calTo_says (H := H) 10 a b)
        rw [← e2, ← e3] at hcb HM
        clear e2 e3
        have g1 : ¬ cm < 1 := by omega
        have g2 : ¬ cx > 10000 := by omega
        have g3 : ¬ cm > cx := by omega
        obtain ⟨cm1, hcm1⟩ : ∃ z, cm - 1 = z := ⟨_, rfl⟩
        obtain ⟨cx1, hcx1⟩ : ∃ z, cx + 1 = z := ⟨_, rfl⟩
        have w0 : IntKind.i64.wrap (cm - 1) = cm1 := by rw [IntWalk.i64_in _ (by omega)]; exact hcm1
        have w1 : IntKind.i64.wrap (cx + 1) = cx1 := by rw [IntWalk.i64_in _ (by omega)]; exact hcx1
        have OUT : Hid (∀ at_ : Int, (at_ = cm1 ∨ at_ = cx1) → 1 ≤ at_ → at_ ≤ 10000 → badL at_ at_ H 10 ≠ []) := Lib.hid (by
         intro at_ ha h1 h2 hn
         have := (HM.out at_ at_).2 ⟨h1, h2, (badL_nil (Int.le_refl _) 10).1 hn⟩
         omega)
        have INN : Hid (badL cm cx H 10 = []) := Lib.hid ((badL_nil e4 10).2 ((HM.out cm cx).1 ⟨Int.le_refl _, Int.le_refl _⟩).2.2)
        have CS : Hid (Cal2 cm cx) := Lib.hid ⟨hcb.1, e4, hcb.2⟩
        clear hcb HM e4 hcm1 hcx1
        go_upto_region 24 with fail
        clear g1 g2 g3 hlt
        refine (show (∀ sj : Nat → Value, Code.wp Try.prog _ _ ⟨#[sj 0,sj 1,sj 2,sj 3,sj 4, .pointer (some ⟨v4, 0, none⟩), .pointer (some ⟨v5, 0, none⟩), .pointer (some ⟨v7, 0, none⟩), .slice ba8 L.length bc8, .int .i64 0, .pointer (some ⟨v10, 0, none⟩), .int .i64 0,sj 12,sj 13,sj 14,sj 15,sj 16, .int .i64 0,undef,undef,undef,undef,undef,sj 23,sj 24,sj 25,sj 26,sj 27,sj 28,sj 29,sj 30,sj 31,sj 32,sj 33,sj 34,sj 35,sj 36,sj 37,sj 38,sj 39,sj 40,sj 41,sj 42,sj 43,sj 44,sj 45,sj 46,sj 47,sj 48,sj 49,sj 50,sj 51,sj 52,sj 53,sj 54,sj 55,sj 56,sj 57,sj 58,sj 59,sj 60,sj 61,sj 62,sj 63,sj 64,sj 65,sj 66,sj 67,sj 68,sj 69,sj 70,sj 71,sj 72,sj 73,sj 74,sj 75,sj 76,sj 77,sj 78,sj 79,sj 80,sj 81,sj 82,sj 83,sj 84,sj 85,sj 86,sj 87,sj 88,sj 89,sj 90,sj 91,sj 92,sj 93,sj 94,sj 95,sj 96,sj 97,sj 98,sj 99,sj 100,sj 101,sj 102,sj 103,sj 104,sj 105,sj 106,sj 107,sj 108,sj 109,sj 110,sj 111,sj 112,sj 113,sj 114,sj 115,sj 116,sj 117,sj 118,sj 119,sj 120,sj 121,sj 122,sj 123,sj 124,sj 125,sj 126,sj 127,sj 128,sj 129,sj 130,sj 131,sj 132,sj 133,sj 134,sj 135,sj 136,sj 137,sj 138,sj 139,sj 140,sj 141,sj 142,sj 143,sj 144,sj 145,sj 146,sj 147,sj 148,sj 149,sj 150,sj 151,sj 152,sj 153,sj 154,sj 155,sj 156,sj 157,sj 158,sj 159,sj 160,sj 161,sj 162,sj 163,sj 164,sj 165,sj 166,sj 167,sj 168,sj 169,sj 170,sj 171,sj 172,sj 173,sj 174,sj 175,sj 176,sj 177,sj 178,sj 179,sj 180,sj 181,sj 182,sj 183,sj 184,sj 185,sj 186,sj 187,sj 188,sj 189,sj 190,sj 191,sj 192,sj 193,sj 194,sj 195,sj 196,sj 197,sj 198,sj 199,sj 200,sj 201,sj 202,sj 203,sj 204,sj 205,sj 206,sj 207,sj 208,sj 209,sj 210,sj 211,sj 212,sj 213,sj 214,sj 215,sj 216,sj 217,sj 218,sj 219,sj 220,sj 221,sj 222,sj 223,sj 224,sj 225,sj 226,undef,undef,undef,undef,undef,undef,undef,undef,undef,undef,undef,undef,undef,undef,undef,undef,undef,undef,undef,undef,undef,undef,undef,undef,undef,undef,undef,undef,undef,undef,undef,undef,undef,undef,undef,undef,undef,undef,undef,undef,undef,undef,undef,undef,undef,undef,undef,undef,undef,undef,undef,undef,undef,undef], []⟩ _) → _ from fun h => h ((fun l : List Value => fun i => l.getD i undef) [_,_,_,_,_,undef,undef,undef,undef,undef,undef,undef,_,_,_,_,_,undef,undef,undef,undef,undef,undef,_,_,_,_,_,_,_,_,_,_,_,_,_,_,_,_,_,_,_,_,_,_,_,_,_,_,_,_,_,_,_,_,_,_,_,_,_,_,_,_,_,_,_,_,_,_,_,_,_,_,_,_,_,_,_,_,_,_,_,_,_,_,_,_,_,_,_,_,_,_,_,_,_,_,_,_,_,_,_,_,_,_,_,_,_,_,_,_,_,_,_,_,_,_,_,_,_,_,_,_,_,_,_,_,_,_,_,_,_,_,_,_,_,_,_,_,_,_,_,_,_,_,_,_,_,_,_,_,_,_,_,_,_,_,_,_,_,_,_,_,_,_,_,_,_,_,_,_,_,_,_,_,_,_,_,_,_,_,_,_,_,_,_,_,_,_,_,_,_,_,_,_,_,_,_,_,_,_,_,_,_,_,_,_,_,_,_,_,_,_,_,_,_,_,_,_,_,_,_,_,_,_,_,_])) ?_
        intro sj
        dsimp only
        go_wp2
        go_loopw [17] (fun x wr => Hid (Gr wz wr ∧ (x = .int .i64 0 ∨ x = .int .i64 1 ∨ x = .int .i64 2))) (fun x wr => 2 - (intOf x).toNat)
        case atStart => exact Lib.hid ⟨Below.refl _ _, .inl rfl⟩
        case round =>
         obtain ⟨gW, hx⟩ := hrel.out
         clear hrel
         refine wp_abs (fun Z => Gr wz Z) gW ?_
         clear gW
         rintro wy gW
         have gR := gW
         replace gU := gU.tr gR
         replace oL := oL.keep gR
         replace oA := oA.keep gR
         replace r2 := r2.grow gR
         replace r3 := r3.grow gR
         replace r4 := r4.grow gR
         replace oW := oW.keep gR
         replace br8 := br8.grow gR
         replace oS := oS.keep gR
         clear gR c2_ c3_
         obtain ⟨c2_, c3_⟩ := oS.c2
         rcases hx with rfl | rfl | rfl
         ·by_cases hr : 1 ≤ cm1 ∧ cm1 ≤ 10000
          case neg =>
           by_cases hr1 : cm1 < 1
           ·go_wp2
            go_roundw
            case rel => exact Lib.hid ⟨gW, .inr (.inl rfl)⟩
            case measure => simp [intOf]
           ·have hr2 : cm1 > 10000 := by omega
            go_wp2
            go_roundw
            case rel => exact Lib.hid ⟨gW, .inr (.inl rfl)⟩
            case measure => simp [intOf]
          case pos =>
           obtain ⟨hr1, hr2⟩ := hr
           have hn1 : ¬ cm1 < 1 := by omega
           have hn2 : ¬ cm1 > 10000 := by omega
           have CC : Hid (Cal2 cm1 cm1) := Lib.hid ⟨hr1, Int.le_refl _, hr2⟩
           have hO := OUT.out cm1 (.inl rfl) hr1 hr2
           obtain ⟨L3, hL3⟩ : ∃ l, badL cm1 cm1 H 10 = l := ⟨_, rfl⟩
           have CL3 := Lib.hid (fun pa ta ba pc tc bc v h1 h2 h3 => CG.out cm1 cm1 CC.out pa ta ba pc tc bc v h1 h2 h3)
           rw [hL3] at CL3 hO
           have hl3 : ((L3.length : Int) == 0) = false := by
            simp
            exact hO
           clear hL3 hO hr1 hr2
           go_upto_region 28 with fail
           clear c2_ c3_ hn1 hn2
           refine (show (∀ sh0 : Nat → Value, Code.wp Try.prog _ _ ⟨#[sj 0,sj 1,sj 2,sj 3,sh0 4, .pointer (some ⟨v4, 0, none⟩), .pointer (some ⟨v5, 0, none⟩), .pointer (some ⟨v7, 0, none⟩), .slice ba8 L.length bc8, .int .i64 0, .pointer (some ⟨v10, 0, none⟩), .int .i64 0,sj 12,sj 13,sj 14,sj 15,sj 16, .int .i64 0, .int .i64 cm1,sh0 19,sh0 20,undef,undef,sj 23,sj 24,sj 25,sj 26,sj 27,sj 28,sj 29,sj 30,sj 31,sj 32,sj 33,sj 34,sj 35,sj 36,sj 37,sj 38,sj 39,sj 40,sj 41,sj 42,sj 43,sj 44,sj 45,sj 46,sj 47,sj 48,sj 49,sj 50,sj 51,sj 52,sj 53,sj 54,sj 55,sj 56,sj 57,sj 58,sj 59,sj 60,sj 61,sj 62,sj 63,sj 64,sj 65,sj 66,sj 67,sj 68,sj 69,sj 70,sj 71,sj 72,sj 73,sj 74,sj 75,sj 76,sj 77,sj 78,sj 79,sj 80,sj 81,sj 82,sj 83,sj 84,sj 85,sj 86,sj 87,sj 88,sj 89,sj 90,sj 91,sj 92,sj 93,sj 94,sj 95,sj 96,sj 97,sj 98,sj 99,sj 100,sj 101,sj 102,sj 103,sj 104,sj 105,sj 106,sj 107,sj 108,sj 109,sj 110,sj 111,sj 112,sj 113,sj 114,sj 115,sj 116,sj 117,sj 118,sj 119,sj 120,sj 121,sj 122,sj 123,sj 124,sj 125,sj 126,sj 127,sj 128,sj 129,sj 130,sj 131,sj 132,sj 133,sj 134,sj 135,sj 136,sj 137,sj 138,sj 139,sj 140,sj 141,sj 142,sj 143,sj 144,sj 145,sj 146,sj 147,sj 148,sj 149,sj 150,sj 151,sj 152,sj 153,sj 154,sj 155,sj 156,sj 157,sj 158,sj 159,sj 160,sj 161,sj 162,sj 163,sj 164,sj 165,sj 166,sj 167,sj 168,sj 169,sj 170,sj 171,sj 172,sj 173,sj 174,sj 175,sj 176,sj 177,sj 178,sj 179,sj 180,sj 181,sj 182,sj 183,sj 184,sj 185,sj 186,sj 187,sj 188,sj 189,sj 190,sj 191,sj 192,sj 193,sj 194,sj 195,sj 196,sj 197,sj 198,sj 199,sj 200,sj 201,sj 202,sj 203,sj 204,sj 205,sj 206,sj 207,sj 208,sj 209,sj 210,sj 211,sj 212,sj 213,sj 214,sj 215,sj 216,sj 217,sj 218,sj 219,sj 220,sj 221,sj 222,sj 223,sj 224,sj 225,sj 226,sh0 227,sh0 228,sh0 229,sh0 230,sh0 231,sh0 232,sh0 233,sh0 234,sh0 235,sh0 236,sh0 237,sh0 238,sh0 239,sh0 240,sh0 241,sh0 242,sh0 243,sh0 244,sh0 245,sh0 246,sh0 247,sh0 248,sh0 249,sh0 250,sh0 251,sh0 252,sh0 253,sh0 254,sh0 255,sh0 256,sh0 257,sh0 258,sh0 259,sh0 260,sh0 261,sh0 262,undef,undef,undef,undef,undef,undef,undef,undef,undef,undef,undef,undef,undef,undef,undef,undef,undef,undef], []⟩ _) → _ from fun h => h ((fun l : List Value => fun i => l.getD i undef) [undef,undef,undef,undef,_,undef,undef,undef,undef,undef,undef,undef,undef,undef,undef,undef,undef,undef,undef,_,_,undef,undef,undef,undef,undef,undef,undef,undef,undef,undef,undef,undef,undef,undef,undef,undef,undef,undef,undef,undef,undef,undef,undef,undef,undef,undef,undef,undef,undef,undef,undef,undef,undef,undef,undef,undef,undef,undef,undef,undef,undef,undef,undef,undef,undef,undef,undef,undef,undef,undef,undef,undef,undef,undef,undef,undef,undef,undef,undef,undef,undef,undef,undef,undef,undef,undef,undef,undef,undef,undef,undef,undef,undef,undef,undef,undef,undef,undef,undef,undef,undef,undef,undef,undef,undef,undef,undef,undef,undef,undef,undef,undef,undef,undef,undef,undef,undef,undef,undef,undef,undef,undef,undef,undef,undef,undef,undef,undef,undef,undef,undef,undef,undef,undef,undef,undef,undef,undef,undef,undef,undef,undef,undef,undef,undef,undef,undef,undef,undef,undef,undef,undef,undef,undef,undef,undef,undef,undef,undef,undef,undef,undef,undef,undef,undef,undef,undef,undef,undef,undef,undef,undef,undef,undef,undef,undef,undef,undef,undef,undef,undef,undef,undef,undef,undef,undef,undef,undef,undef,undef,undef,undef,undef,undef,undef,undef,undef,undef,undef,undef,undef,undef,undef,undef,undef,undef,undef,undef,undef,undef,undef,undef,undef,undef,undef,undef,undef,undef,undef,undef,undef,undef,undef,undef,undef,undef,_,_,_,_,_,_,_,_,_,_,_,_,_,_,_,_,_,_,_,_,_,_,_,_,_,_,_,_,_,_,_,_,_,_,_,_])) ?_
           intro sh0
           dsimp only
           refine wp_region_facts 11 [(1, 0), (5, 3), (5, 4), (6, 1), (6, 2), (6, 5), (7, 6), (8, 7), (9, 7), (10, 8)] (fun x => ⟨#[sj 0,sj 1,sj 2,sj 3,sh0 4, .pointer (some ⟨v4, 0, none⟩), .pointer (some ⟨v5, 0, none⟩), .pointer (some ⟨v7, 0, none⟩), .slice ba8 L.length bc8, .int .i64 0, .pointer (some ⟨v10, 0, none⟩), .int .i64 0,sj 12,sj 13,sj 14,sj 15,sj 16, .int .i64 0, .int .i64 cm1, x 10,sh0 20,undef,undef,sj 23,sj 24,sj 25,sj 26,sj 27,sj 28,sj 29,sj 30,sj 31,sj 32,sj 33,sj 34,sj 35,sj 36,sj 37,sj 38,sj 39,sj 40,sj 41,sj 42,sj 43,sj 44,sj 45,sj 46,sj 47,sj 48,sj 49,sj 50,sj 51,sj 52,sj 53,sj 54,sj 55,sj 56,sj 57,sj 58,sj 59,sj 60,sj 61,sj 62,sj 63,sj 64,sj 65,sj 66,sj 67,sj 68,sj 69,sj 70,sj 71,sj 72,sj 73,sj 74,sj 75,sj 76,sj 77,sj 78,sj 79,sj 80,sj 81,sj 82,sj 83,sj 84,sj 85,sj 86,sj 87,sj 88,sj 89,sj 90,sj 91,sj 92,sj 93,sj 94,sj 95,sj 96,sj 97,sj 98,sj 99,sj 100,sj 101,sj 102,sj 103,sj 104,sj 105,sj 106,sj 107,sj 108,sj 109,sj 110,sj 111,sj 112,sj 113,sj 114,sj 115,sj 116,sj 117,sj 118,sj 119,sj 120,sj 121,sj 122,sj 123,sj 124,sj 125,sj 126,sj 127,sj 128,sj 129,sj 130,sj 131,sj 132,sj 133,sj 134,sj 135,sj 136,sj 137,sj 138,sj 139,sj 140,sj 141,sj 142,sj 143,sj 144,sj 145,sj 146,sj 147,sj 148,sj 149,sj 150,sj 151,sj 152,sj 153,sj 154,sj 155,sj 156,sj 157,sj 158,sj 159,sj 160,sj 161,sj 162,sj 163,sj 164,sj 165,sj 166,sj 167,sj 168,sj 169,sj 170,sj 171,sj 172,sj 173,sj 174,sj 175,sj 176,sj 177,sj 178,sj 179,sj 180,sj 181,sj 182,sj 183,sj 184,sj 185,sj 186,sj 187,sj 188,sj 189,sj 190,sj 191,sj 192,sj 193,sj 194,sj 195,sj 196,sj 197,sj 198,sj 199,sj 200,sj 201,sj 202,sj 203,sj 204,sj 205,sj 206,sj 207,sj 208,sj 209,sj 210,sj 211,sj 212,sj 213,sj 214,sj 215,sj 216,sj 217,sj 218,sj 219,sj 220,sj 221,sj 222,sj 223,sj 224,sj 225,sj 226,sh0 227,sh0 228,sh0 229,sh0 230,sh0 231,sh0 232,sh0 233,sh0 234,sh0 235,sh0 236,sh0 237,sh0 238,sh0 239,sh0 240,sh0 241,sh0 242,sh0 243,sh0 244,sh0 245, x 7, x 0, x 1, x 2, x 3, x 4, x 5, x 6, x 8, x 9,sh0 256,sh0 257,sh0 258,sh0 259,sh0 260,sh0 261,sh0 262,undef,undef,undef,undef,undef,undef,undef,undef,undef,undef,undef,undef,undef,undef,undef,undef,undef,undef], []⟩) (fun i => [sh0 247,sh0 248,sh0 249,sh0 250,sh0 251,sh0 252,sh0 253,sh0 246,sh0 254,sh0 255,sh0 19].getD i undef) [fun _ x => x = .agg #[.int .i64 30, .slice ka3 4 kc3, .int .i64 hei, .slice ka7 2 kc7, .slice ka11 2 kc11, .int .i64 9, .bool o], fun v x => ∃ naa3 nac3 naa7 nac7 naa11 nac11, x = .agg #[.int .i64 30, .slice naa3 4 nac3, .int .i64 hei, .slice naa7 2 nac7, .slice naa11 2 nac11, .int .i64 9, .bool o] ∧ (IRow v naa3 [a0, a1, a2, a3] ∧ IRow v naa7 [t0, t1] ∧ IRow v naa11 [s0, s1]), fun _ x => x = .agg #[.int .i64 W.ll, .int .i64 W.lh, .int .i64 W.wl, .int .i64 W.wh, .int .i64 W.hl, .int .i64 W.hh, .int .i64 W.ol, .int .i64 W.oh, .int .i64 W.il, .int .i64 W.ih, .bool W.wo], fun _ x => x = .int .i64 cm1, fun _ x => x = .int .i64 cm1, fun _ x => x = .agg #[.int .i64 cm1, .int .i64 cm1], fun v x => ∃ ha6 hc6, x = .tuple #[.slice ha6 L3.length hc6, .int .i64 0] ∧ BRow v ha6 L3, fun v x => ∃ ha7 hc7, x = .tuple #[.slice ha7 L3.length hc7, .int .i64 0] ∧ BRow v ha7 L3, fun v x => ∃ ha8 hc8, x = .slice ha8 L3.length hc8 ∧ BRow v ha8 L3, fun _ x => x = .int .i64 0, fun v x => ∃ ha10 hc10, x = .slice ha10 L3.length hc10 ∧ BRow v ha10 L3] (by rfl) (by kernel_rfl) (by kernel_rfl) (by kernel_rfl) (stays_cons (Stays.eq _) (stays_cons ((show Stays (fun v x => ∃ naa3 nac3 naa7 nac7 naa11 nac11, x = .agg #[.int .i64 30, .slice naa3 4 nac3, .int .i64 hei, .slice naa7 2 nac7, .slice naa11 2 nac11, .int .i64 9, .bool o] ∧ (IRow v naa3 [a0, a1, a2, a3] ∧ IRow v naa7 [t0, t1] ∧ IRow v naa11 [s0, s1])) from fun v v' x g ⟨a, b, c, d, e, f, h, r1, r2, r3⟩ => ⟨a, b, c, d, e, f, h, r1.grow g, r2.grow g, r3.grow g⟩)) (stays_cons (Stays.eq _) (stays_cons (Stays.eq _) (stays_cons (Stays.eq _) (stays_cons (Stays.eq _) (stays_cons ((show Stays (fun v x => ∃ ha6 hc6, x = .tuple #[.slice ha6 L3.length hc6, .int .i64 0] ∧ BRow v ha6 L3) from fun v v' x g ⟨a, c, h, r⟩ => ⟨a, c, h, r.grow g⟩)) (stays_cons ((show Stays (fun v x => ∃ ha7 hc7, x = .tuple #[.slice ha7 L3.length hc7, .int .i64 0] ∧ BRow v ha7 L3) from fun v v' x g ⟨a, c, h, r⟩ => ⟨a, c, h, r.grow g⟩)) (stays_cons ((show Stays (fun v x => ∃ ha8 hc8, x = .slice ha8 L3.length hc8 ∧ BRow v ha8 L3) from fun v v' x g ⟨a, c, h, r⟩ => ⟨a, c, h, r.grow g⟩)) (stays_cons (Stays.eq _) (stays_cons ((show Stays (fun v x => ∃ ha10 hc10, x = .slice ha10 L3.length hc10 ∧ BRow v ha10 L3) from fun v v' x g ⟨a, c, h, r⟩ => ⟨a, c, h, r.grow g⟩)) stays_nil))))))))))) ?step28_0 ?fin28_0
           case step28_0 => as_aux_lemma =>
            rintro i hi x v gv hd K hK
            have hi8 : i = 0 ∨ i = 1 ∨ i = 2 ∨ i = 3 ∨ i = 4 ∨ i = 5 ∨ i = 6 ∨ i = 7 ∨ i = 8 ∨ i = 9 ∨ i = 10 := by omega
            rcases hi8 with rfl | rfl | rfl | rfl | rfl | rfl | rfl | rfl | rfl | rfl | rfl
            ·try dsimp only [upd, Nat.reduceBEq, cond_true, cond_false]
             refine wpOp_step rfl (fun K' hK' => ?_)
             rw [if_pos (by rfl)]
             refine wp_load_mid 24 _ rfl v4 0 (by rfl) [.int .i64 30, .slice ka3 4 kc3, .int .i64 hei, .slice ka7 2 kc7, .slice ka11 2 kc11, .int .i64 9, .bool o] _ (fun j u hu => by rw [Nat.zero_add]; exact (oL.keep gv).2 j u hu) Try.underlying24 rfl (by kernel_rfl) ?_
             exact hK' _ _ (hK _ _ (Below.refl _ _) (at_of rfl (rfl)))
            ·obtain ⟨x, rfl⟩ := upd_of (show x 0 = .agg #[.int .i64 30, .slice ka3 4 kc3, .int .i64 hei, .slice ka7 2 kc7, .slice ka11 2 kc11, .int .i64 9, .bool o] from hd 0 _ (by simp) rfl)
             try dsimp only [upd, Nat.reduceBEq, cond_true, cond_false]
             refine wpOp_step rfl (fun K' hK' => ?_)
             go_simp
             refine (own4_any a0 a1 a2 a3 t0 t1 s0 s1 hei o _ _ _ _ _ _ v (r2.grow gv) (r3.grow gv) (r4.grow gv)).mono ?_
             rintro e v' ⟨w3, b3, w7, b7, w11, b11, rfl, hg, r1, r2, r3⟩
             exact hK' _ _ (hK _ _ hg (at_of rfl (⟨_,_,_,_,_,_, rfl, r1, r2, r3⟩)))
            ·try dsimp only [upd, Nat.reduceBEq, cond_true, cond_false]
             refine wpOp_step rfl (fun K' hK' => ?_)
             rw [if_pos (by rfl)]
             refine wp_load_mid 48 _ rfl v7 0 (by rfl) [.int .i64 W.ll, .int .i64 W.lh, .int .i64 W.wl, .int .i64 W.wh, .int .i64 W.hl, .int .i64 W.hh, .int .i64 W.ol, .int .i64 W.oh, .int .i64 W.il, .int .i64 W.ih, .bool W.wo] _ (fun j u hu => by rw [Nat.zero_add]; exact (oW.keep gv).2 j u hu) Try.underlying48 rfl (by kernel_rfl) ?_
             exact hK' _ _ (hK _ _ (Below.refl _ _) (at_of rfl (rfl)))
            ·try dsimp only [upd, Nat.reduceBEq, cond_true, cond_false]
             refine wpOp_step rfl (fun K' hK' => ?_)
             go_simp
             exact hK' _ _ (hK _ _ (Below.refl _ _) (at_of rfl (rfl)))
            ·try dsimp only [upd, Nat.reduceBEq, cond_true, cond_false]
             refine wpOp_step rfl (fun K' hK' => ?_)
             go_simp
             exact hK' _ _ (hK _ _ (Below.refl _ _) (at_of rfl (rfl)))
            ·obtain ⟨x, rfl⟩ := upd_of (show x 3 = .int .i64 cm1 from hd 3 _ (by simp) rfl)
             obtain ⟨x, rfl⟩ := upd_of (show x 4 = .int .i64 cm1 from hd 4 _ (by simp) rfl)
             try dsimp only [upd, Nat.reduceBEq, cond_true, cond_false]
             refine wpOp_step rfl (fun K' hK' => ?_)
             go_simp
             refine (span02_any cm1 cm1 v).mono ?_
             rintro e v' ⟨rfl, hg⟩
             exact hK' _ _ (hK _ _ hg (at_of rfl (rfl)))
            ·obtain ⟨naa3, nac3, naa7, nac7, naa11, nac11, e1, r1_⟩ := hd 1 _ (by simp) rfl
             obtain ⟨x, rfl⟩ := upd_of (show x 1 = .agg #[.int .i64 30, .slice naa3 4 nac3, .int .i64 hei, .slice naa7 2 nac7, .slice naa11 2 nac11, .int .i64 9, .bool o] from e1)
             obtain ⟨x, rfl⟩ := upd_of (show x 2 = .agg #[.int .i64 W.ll, .int .i64 W.lh, .int .i64 W.wl, .int .i64 W.wh, .int .i64 W.hl, .int .i64 W.hh, .int .i64 W.ol, .int .i64 W.oh, .int .i64 W.il, .int .i64 W.ih, .bool W.wo] from hd 2 _ (by simp) rfl)
             obtain ⟨x, rfl⟩ := upd_of (show x 5 = .agg #[.int .i64 cm1, .int .i64 cm1] from hd 5 _ (by simp) rfl)
             try dsimp only [upd, Nat.reduceBEq, cond_true, cond_false]
             refine wpOp_step rfl (fun K' hK' => ?_)
             go_simp
             refine (CL3.out _ _ _ _ _ _ v r1_.1 r1_.2.1 r1_.2.2).mono ?_
             rintro e v' ⟨a9, c9, rfl, hg, r⟩
             exact hK' _ _ (hK _ _ hg (at_of rfl (⟨_,_, rfl, r⟩)))
            ·obtain ⟨ha6, hc6, e6, hr6⟩ := hd 6 _ (by simp) rfl
             obtain ⟨x, rfl⟩ := upd_of (show x 6 = .tuple #[.slice ha6 L3.length hc6, .int .i64 0] from e6)
             try dsimp only [upd, Nat.reduceBEq, cond_true, cond_false]
             refine wpOp_step rfl (fun K' hK' => ?_)
             go_simp
             exact hK' _ _ (hK _ _ (Below.refl _ _) (at_of rfl (⟨_,_, rfl, hr6⟩)))
            ·obtain ⟨ha7, hc7, e7, hr7⟩ := hd 7 _ (by simp) rfl
             obtain ⟨x, rfl⟩ := upd_of (show x 7 = .tuple #[.slice ha7 L3.length hc7, .int .i64 0] from e7)
             try dsimp only [upd, Nat.reduceBEq, cond_true, cond_false]
             refine wpOp_step rfl (fun K' hK' => ?_)
             go_simp
             exact hK' _ _ (hK _ _ (Below.refl _ _) (at_of rfl (⟨_,_, rfl, hr7⟩)))
            ·obtain ⟨ha7, hc7, e7, hr7⟩ := hd 7 _ (by simp) rfl
             obtain ⟨x, rfl⟩ := upd_of (show x 7 = .tuple #[.slice ha7 L3.length hc7, .int .i64 0] from e7)
             try dsimp only [upd, Nat.reduceBEq, cond_true, cond_false]
             refine wpOp_step rfl (fun K' hK' => ?_)
             go_simp
             exact hK' _ _ (hK _ _ (Below.refl _ _) (at_of rfl (rfl)))
            ·obtain ⟨ha8, hc8, e8, hr8⟩ := hd 8 _ (by simp) rfl
             obtain ⟨x, rfl⟩ := upd_of (show x 8 = .slice ha8 L3.length hc8 from e8)
             try dsimp only [upd, Nat.reduceBEq, cond_true, cond_false]
             refine wpOp_step rfl (fun K' hK' => ?_)
             go_simp
             exact hK' _ _ (hK _ _ (Below.refl _ _) (at_of rfl (⟨_,_, rfl, hr8⟩)))
           case fin28_0 =>
            rintro x v gv hd
            obtain ⟨x, rfl⟩ := upd_of (show x 9 = .int .i64 0 from hd 9 _ (by omega) rfl)
            obtain ⟨ha10, hc10, e10, hr10⟩ := hd 10 _ (by omega) rfl
            obtain ⟨x, rfl⟩ := upd_of (show x 10 = .slice ha10 L3.length hc10 from e10)
            clear hd
            show wpList Try.prog _ _ (List.drop 11 _) (⟨#[_,_,_,_,_,_,_,_,_,_,_,_,_,_,_,_,_,_,_, .slice ha10 L3.length hc10,_,_,_,_,_,_,_,_,_,_,_,_,_,_,_,_,_,_,_,_,_,_,_,_,_,_,_,_,_,_,_,_,_,_,_,_,_,_,_,_,_,_,_,_,_,_,_,_,_,_,_,_,_,_,_,_,_,_,_,_,_,_,_,_,_,_,_,_,_,_,_,_,_,_,_,_,_,_,_,_,_,_,_,_,_,_,_,_,_,_,_,_,_,_,_,_,_,_,_,_,_,_,_,_,_,_,_,_,_,_,_,_,_,_,_,_,_,_,_,_,_,_,_,_,_,_,_,_,_,_,_,_,_,_,_,_,_,_,_,_,_,_,_,_,_,_,_,_,_,_,_,_,_,_,_,_,_,_,_,_,_,_,_,_,_,_,_,_,_,_,_,_,_,_,_,_,_,_,_,_,_,_,_,_,_,_,_,_,_,_,_,_,_,_,_,_,_,_,_,_,_,_,_,_,_,_,_,_,_,_,_,_,_,_,_,_,_,_,_,_,_,_,_,_,_,_, x 7, x 0, x 1, x 2, x 3, x 4, x 5, x 6, x 8, .int .i64 0,_,_,_,_,_,_,_,_,_,_,_,_,_,_,_,_,_,_,_,_,_,_,_,_,_], []⟩ : Act) v
            simp only [List.drop_succ_cons, List.drop_zero]
            go_wp2
            go_roundw
            case rel => exact Lib.hid ⟨gW.tr gv, .inr (.inl rfl)⟩
            case measure => simp [intOf]
         ·by_cases hr : 1 ≤ cx1 ∧ cx1 ≤ 10000
          case neg =>
           by_cases hr1 : cx1 < 1
           ·go_wp2
            go_roundw
            case rel => exact Lib.hid ⟨gW, .inr (.inr rfl)⟩
            case measure => simp [intOf]
           ·have hr2 : cx1 > 10000 := by omega
            go_wp2
            go_roundw
            case rel => exact Lib.hid ⟨gW, .inr (.inr rfl)⟩
            case measure => simp [intOf]
          case pos =>
           obtain ⟨hr1, hr2⟩ := hr
           have hn1 : ¬ cx1 < 1 := by omega
           have hn2 : ¬ cx1 > 10000 := by omega
           have CC : Hid (Cal2 cx1 cx1) := Lib.hid ⟨hr1, Int.le_refl _, hr2⟩
           have hO := OUT.out cx1 (.inr rfl) hr1 hr2
           obtain ⟨L3, hL3⟩ : ∃ l, badL cx1 cx1 H 10 = l := ⟨_, rfl⟩
           have CL3 := Lib.hid (fun pa ta ba pc tc bc v h1 h2 h3 => CG.out cx1 cx1 CC.out pa ta ba pc tc bc v h1 h2 h3)
           rw [hL3] at CL3 hO
           have hl3 : ((L3.length : Int) == 0) = false := by
            simp
            exact hO
           clear hL3 hO hr1 hr2
           go_upto_region 28 with fail
           clear c2_ c3_ hn1 hn2
           refine (show (∀ sh1 : Nat → Value, Code.wp Try.prog _ _ ⟨#[sj 0,sj 1,sj 2,sj 3,sh1 4, .pointer (some ⟨v4, 0, none⟩), .pointer (some ⟨v5, 0, none⟩), .pointer (some ⟨v7, 0, none⟩), .slice ba8 L.length bc8, .int .i64 0, .pointer (some ⟨v10, 0, none⟩), .int .i64 0,sj 12,sj 13,sj 14,sj 15,sj 16, .int .i64 1, .int .i64 cx1,sh1 19,sh1 20,undef,undef,sj 23,sj 24,sj 25,sj 26,sj 27,sj 28,sj 29,sj 30,sj 31,sj 32,sj 33,sj 34,sj 35,sj 36,sj 37,sj 38,sj 39,sj 40,sj 41,sj 42,sj 43,sj 44,sj 45,sj 46,sj 47,sj 48,sj 49,sj 50,sj 51,sj 52,sj 53,sj 54,sj 55,sj 56,sj 57,sj 58,sj 59,sj 60,sj 61,sj 62,sj 63,sj 64,sj 65,sj 66,sj 67,sj 68,sj 69,sj 70,sj 71,sj 72,sj 73,sj 74,sj 75,sj 76,sj 77,sj 78,sj 79,sj 80,sj 81,sj 82,sj 83,sj 84,sj 85,sj 86,sj 87,sj 88,sj 89,sj 90,sj 91,sj 92,sj 93,sj 94,sj 95,sj 96,sj 97,sj 98,sj 99,sj 100,sj 101,sj 102,sj 103,sj 104,sj 105,sj 106,sj 107,sj 108,sj 109,sj 110,sj 111,sj 112,sj 113,sj 114,sj 115,sj 116,sj 117,sj 118,sj 119,sj 120,sj 121,sj 122,sj 123,sj 124,sj 125,sj 126,sj 127,sj 128,sj 129,sj 130,sj 131,sj 132,sj 133,sj 134,sj 135,sj 136,sj 137,sj 138,sj 139,sj 140,sj 141,sj 142,sj 143,sj 144,sj 145,sj 146,sj 147,sj 148,sj 149,sj 150,sj 151,sj 152,sj 153,sj 154,sj 155,sj 156,sj 157,sj 158,sj 159,sj 160,sj 161,sj 162,sj 163,sj 164,sj 165,sj 166,sj 167,sj 168,sj 169,sj 170,sj 171,sj 172,sj 173,sj 174,sj 175,sj 176,sj 177,sj 178,sj 179,sj 180,sj 181,sj 182,sj 183,sj 184,sj 185,sj 186,sj 187,sj 188,sj 189,sj 190,sj 191,sj 192,sj 193,sj 194,sj 195,sj 196,sj 197,sj 198,sj 199,sj 200,sj 201,sj 202,sj 203,sj 204,sj 205,sj 206,sj 207,sj 208,sj 209,sj 210,sj 211,sj 212,sj 213,sj 214,sj 215,sj 216,sj 217,sj 218,sj 219,sj 220,sj 221,sj 222,sj 223,sj 224,sj 225,sj 226,sh1 227,sh1 228,sh1 229,sh1 230,sh1 231,sh1 232,sh1 233,sh1 234,sh1 235,sh1 236,sh1 237,sh1 238,sh1 239,sh1 240,sh1 241,sh1 242,sh1 243,sh1 244,sh1 245,sh1 246,sh1 247,sh1 248,sh1 249,sh1 250,sh1 251,sh1 252,sh1 253,sh1 254,sh1 255,sh1 256,sh1 257,sh1 258,sh1 259,sh1 260,sh1 261,sh1 262,undef,undef,undef,undef,undef,undef,undef,undef,undef,undef,undef,undef,undef,undef,undef,undef,undef,undef], []⟩ _) → _ from fun h => h ((fun l : List Value => fun i => l.getD i undef) [undef,undef,undef,undef,_,undef,undef,undef,undef,undef,undef,undef,undef,undef,undef,undef,undef,undef,undef,_,_,undef,undef,undef,undef,undef,undef,undef,undef,undef,undef,undef,undef,undef,undef,undef,undef,undef,undef,undef,undef,undef,undef,undef,undef,undef,undef,undef,undef,undef,undef,undef,undef,undef,undef,undef,undef,undef,undef,undef,undef,undef,undef,undef,undef,undef,undef,undef,undef,undef,undef,undef,undef,undef,undef,undef,undef,undef,undef,undef,undef,undef,undef,undef,undef,undef,undef,undef,undef,undef,undef,undef,undef,undef,undef,undef,undef,undef,undef,undef,undef,undef,undef,undef,undef,undef,undef,undef,undef,undef,undef,undef,undef,undef,undef,undef,undef,undef,undef,undef,undef,undef,undef,undef,undef,undef,undef,undef,undef,undef,undef,undef,undef,undef,undef,undef,undef,undef,undef,undef,undef,undef,undef,undef,undef,undef,undef,undef,undef,undef,undef,undef,undef,undef,undef,undef,undef,undef,undef,undef,undef,undef,undef,undef,undef,undef,undef,undef,undef,undef,undef,undef,undef,undef,undef,undef,undef,undef,undef,undef,undef,undef,undef,undef,undef,undef,undef,undef,undef,undef,undef,undef,undef,undef,undef,undef,undef,undef,undef,undef,undef,undef,undef,undef,undef,undef,undef,undef,undef,undef,undef,undef,undef,undef,undef,undef,undef,undef,undef,undef,undef,undef,undef,undef,undef,undef,undef,_,_,_,_,_,_,_,_,_,_,_,_,_,_,_,_,_,_,_,_,_,_,_,_,_,_,_,_,_,_,_,_,_,_,_,_])) ?_
           intro sh1
           dsimp only
           refine wp_region_facts 11 [(1, 0), (5, 3), (5, 4), (6, 1), (6, 2), (6, 5), (7, 6), (8, 7), (9, 7), (10, 8)] (fun x => ⟨#[sj 0,sj 1,sj 2,sj 3,sh1 4, .pointer (some ⟨v4, 0, none⟩), .pointer (some ⟨v5, 0, none⟩), .pointer (some ⟨v7, 0, none⟩), .slice ba8 L.length bc8, .int .i64 0, .pointer (some ⟨v10, 0, none⟩), .int .i64 0,sj 12,sj 13,sj 14,sj 15,sj 16, .int .i64 1, .int .i64 cx1, x 10,sh1 20,undef,undef,sj 23,sj 24,sj 25,sj 26,sj 27,sj 28,sj 29,sj 30,sj 31,sj 32,sj 33,sj 34,sj 35,sj 36,sj 37,sj 38,sj 39,sj 40,sj 41,sj 42,sj 43,sj 44,sj 45,sj 46,sj 47,sj 48,sj 49,sj 50,sj 51,sj 52,sj 53,sj 54,sj 55,sj 56,sj 57,sj 58,sj 59,sj 60,sj 61,sj 62,sj 63,sj 64,sj 65,sj 66,sj 67,sj 68,sj 69,sj 70,sj 71,sj 72,sj 73,sj 74,sj 75,sj 76,sj 77,sj 78,sj 79,sj 80,sj 81,sj 82,sj 83,sj 84,sj 85,sj 86,sj 87,sj 88,sj 89,sj 90,sj 91,sj 92,sj 93,sj 94,sj 95,sj 96,sj 97,sj 98,sj 99,sj 100,sj 101,sj 102,sj 103,sj 104,sj 105,sj 106,sj 107,sj 108,sj 109,sj 110,sj 111,sj 112,sj 113,sj 114,sj 115,sj 116,sj 117,sj 118,sj 119,sj 120,sj 121,sj 122,sj 123,sj 124,sj 125,sj 126,sj 127,sj 128,sj 129,sj 130,sj 131,sj 132,sj 133,sj 134,sj 135,sj 136,sj 137,sj 138,sj 139,sj 140,sj 141,sj 142,sj 143,sj 144,sj 145,sj 146,sj 147,sj 148,sj 149,sj 150,sj 151,sj 152,sj 153,sj 154,sj 155,sj 156,sj 157,sj 158,sj 159,sj 160,sj 161,sj 162,sj 163,sj 164,sj 165,sj 166,sj 167,sj 168,sj 169,sj 170,sj 171,sj 172,sj 173,sj 174,sj 175,sj 176,sj 177,sj 178,sj 179,sj 180,sj 181,sj 182,sj 183,sj 184,sj 185,sj 186,sj 187,sj 188,sj 189,sj 190,sj 191,sj 192,sj 193,sj 194,sj 195,sj 196,sj 197,sj 198,sj 199,sj 200,sj 201,sj 202,sj 203,sj 204,sj 205,sj 206,sj 207,sj 208,sj 209,sj 210,sj 211,sj 212,sj 213,sj 214,sj 215,sj 216,sj 217,sj 218,sj 219,sj 220,sj 221,sj 222,sj 223,sj 224,sj 225,sj 226,sh1 227,sh1 228,sh1 229,sh1 230,sh1 231,sh1 232,sh1 233,sh1 234,sh1 235,sh1 236,sh1 237,sh1 238,sh1 239,sh1 240,sh1 241,sh1 242,sh1 243,sh1 244,sh1 245, x 7, x 0, x 1, x 2, x 3, x 4, x 5, x 6, x 8, x 9,sh1 256,sh1 257,sh1 258,sh1 259,sh1 260,sh1 261,sh1 262,undef,undef,undef,undef,undef,undef,undef,undef,undef,undef,undef,undef,undef,undef,undef,undef,undef,undef], []⟩) (fun i => [sh1 247,sh1 248,sh1 249,sh1 250,sh1 251,sh1 252,sh1 253,sh1 246,sh1 254,sh1 255,sh1 19].getD i undef) [fun _ x => x = .agg #[.int .i64 30, .slice ka3 4 kc3, .int .i64 hei, .slice ka7 2 kc7, .slice ka11 2 kc11, .int .i64 9, .bool o], fun v x => ∃ naa3 nac3 naa7 nac7 naa11 nac11, x = .agg #[.int .i64 30, .slice naa3 4 nac3, .int .i64 hei, .slice naa7 2 nac7, .slice naa11 2 nac11, .int .i64 9, .bool o] ∧ (IRow v naa3 [a0, a1, a2, a3] ∧ IRow v naa7 [t0, t1] ∧ IRow v naa11 [s0, s1]), fun _ x => x = .agg #[.int .i64 W.ll, .int .i64 W.lh, .int .i64 W.wl, .int .i64 W.wh, .int .i64 W.hl, .int .i64 W.hh, .int .i64 W.ol, .int .i64 W.oh, .int .i64 W.il, .int .i64 W.ih, .bool W.wo], fun _ x => x = .int .i64 cx1, fun _ x => x = .int .i64 cx1, fun _ x => x = .agg #[.int .i64 cx1, .int .i64 cx1], fun v x => ∃ ha6 hc6, x = .tuple #[.slice ha6 L3.length hc6, .int .i64 0] ∧ BRow v ha6 L3, fun v x => ∃ ha7 hc7, x = .tuple #[.slice ha7 L3.length hc7, .int .i64 0] ∧ BRow v ha7 L3, fun v x => ∃ ha8 hc8, x = .slice ha8 L3.length hc8 ∧ BRow v ha8 L3, fun _ x => x = .int .i64 0, fun v x => ∃ ha10 hc10, x = .slice ha10 L3.length hc10 ∧ BRow v ha10 L3] (by rfl) (by kernel_rfl) (by kernel_rfl) (by kernel_rfl) (stays_cons (Stays.eq _) (stays_cons ((show Stays (fun v x => ∃ naa3 nac3 naa7 nac7 naa11 nac11, x = .agg #[.int .i64 30, .slice naa3 4 nac3, .int .i64 hei, .slice naa7 2 nac7, .slice naa11 2 nac11, .int .i64 9, .bool o] ∧ (IRow v naa3 [a0, a1, a2, a3] ∧ IRow v naa7 [t0, t1] ∧ IRow v naa11 [s0, s1])) from fun v v' x g ⟨a, b, c, d, e, f, h, r1, r2, r3⟩ => ⟨a, b, c, d, e, f, h, r1.grow g, r2.grow g, r3.grow g⟩)) (stays_cons (Stays.eq _) (stays_cons (Stays.eq _) (stays_cons (Stays.eq _) (stays_cons (Stays.eq _) (stays_cons ((show Stays (fun v x => ∃ ha6 hc6, x = .tuple #[.slice ha6 L3.length hc6, .int .i64 0] ∧ BRow v ha6 L3) from fun v v' x g ⟨a, c, h, r⟩ => ⟨a, c, h, r.grow g⟩)) (stays_cons ((show Stays (fun v x => ∃ ha7 hc7, x = .tuple #[.slice ha7 L3.length hc7, .int .i64 0] ∧ BRow v ha7 L3) from fun v v' x g ⟨a, c, h, r⟩ => ⟨a, c, h, r.grow g⟩)) (stays_cons ((show Stays (fun v x => ∃ ha8 hc8, x = .slice ha8 L3.length hc8 ∧ BRow v ha8 L3) from fun v v' x g ⟨a, c, h, r⟩ => ⟨a, c, h, r.grow g⟩)) (stays_cons (Stays.eq _) (stays_cons ((show Stays (fun v x => ∃ ha10 hc10, x = .slice ha10 L3.length hc10 ∧ BRow v ha10 L3) from fun v v' x g ⟨a, c, h, r⟩ => ⟨a, c, h, r.grow g⟩)) stays_nil))))))))))) ?step28_1 ?fin28_1
           case step28_1 => as_aux_lemma =>
            rintro i hi x v gv hd K hK
            have hi8 : i = 0 ∨ i = 1 ∨ i = 2 ∨ i = 3 ∨ i = 4 ∨ i = 5 ∨ i = 6 ∨ i = 7 ∨ i = 8 ∨ i = 9 ∨ i = 10 := by omega
            rcases hi8 with rfl | rfl | rfl | rfl | rfl | rfl | rfl | rfl | rfl | rfl | rfl
            ·try dsimp only [upd, Nat.reduceBEq, cond_true, cond_false]
             refine wpOp_step rfl (fun K' hK' => ?_)
             rw [if_pos (by rfl)]
             refine wp_load_mid 24 _ rfl v4 0 (by rfl) [.int .i64 30, .slice ka3 4 kc3, .int .i64 hei, .slice ka7 2 kc7, .slice ka11 2 kc11, .int .i64 9, .bool o] _ (fun j u hu => by rw [Nat.zero_add]; exact (oL.keep gv).2 j u hu) Try.underlying24 rfl (by kernel_rfl) ?_
             exact hK' _ _ (hK _ _ (Below.refl _ _) (at_of rfl (rfl)))
            ·obtain ⟨x, rfl⟩ := upd_of (show x 0 = .agg #[.int .i64 30, .slice ka3 4 kc3, .int .i64 hei, .slice ka7 2 kc7, .slice ka11 2 kc11, .int .i64 9, .bool o] from hd 0 _ (by simp) rfl)
             try dsimp only [upd, Nat.reduceBEq, cond_true, cond_false]
             refine wpOp_step rfl (fun K' hK' => ?_)
             go_simp
             refine (own4_any a0 a1 a2 a3 t0 t1 s0 s1 hei o _ _ _ _ _ _ v (r2.grow gv) (r3.grow gv) (r4.grow gv)).mono ?_
             rintro e v' ⟨w3, b3, w7, b7, w11, b11, rfl, hg, r1, r2, r3⟩
             exact hK' _ _ (hK _ _ hg (at_of rfl (⟨_,_,_,_,_,_, rfl, r1, r2, r3⟩)))
            ·try dsimp only [upd, Nat.reduceBEq, cond_true, cond_false]
             refine wpOp_step rfl (fun K' hK' => ?_)
             rw [if_pos (by rfl)]
             refine wp_load_mid 48 _ rfl v7 0 (by rfl) [.int .i64 W.ll, .int .i64 W.lh, .int .i64 W.wl, .int .i64 W.wh, .int .i64 W.hl, .int .i64 W.hh, .int .i64 W.ol, .int .i64 W.oh, .int .i64 W.il, .int .i64 W.ih, .bool W.wo] _ (fun j u hu => by rw [Nat.zero_add]; exact (oW.keep gv).2 j u hu) Try.underlying48 rfl (by kernel_rfl) ?_
             exact hK' _ _ (hK _ _ (Below.refl _ _) (at_of rfl (rfl)))
            ·try dsimp only [upd, Nat.reduceBEq, cond_true, cond_false]
             refine wpOp_step rfl (fun K' hK' => ?_)
             go_simp
             exact hK' _ _ (hK _ _ (Below.refl _ _) (at_of rfl (rfl)))
            ·try dsimp only [upd, Nat.reduceBEq, cond_true, cond_false]
             refine wpOp_step rfl (fun K' hK' => ?_)
             go_simp
             exact hK' _ _ (hK _ _ (Below.refl _ _) (at_of rfl (rfl)))
            ·obtain ⟨x, rfl⟩ := upd_of (show x 3 = .int .i64 cx1 from hd 3 _ (by simp) rfl)
             obtain ⟨x, rfl⟩ := upd_of (show x 4 = .int .i64 cx1 from hd 4 _ (by simp) rfl)
             try dsimp only [upd, Nat.reduceBEq, cond_true, cond_false]
             refine wpOp_step rfl (fun K' hK' => ?_)
             go_simp
             refine (span02_any cx1 cx1 v).mono ?_
             rintro e v' ⟨rfl, hg⟩
             exact hK' _ _ (hK _ _ hg (at_of rfl (rfl)))
            ·obtain ⟨naa3, nac3, naa7, nac7, naa11, nac11, e1, r1_⟩ := hd 1 _ (by simp) rfl
             obtain ⟨x, rfl⟩ := upd_of (show x 1 = .agg #[.int .i64 30, .slice naa3 4 nac3, .int .i64 hei, .slice naa7 2 nac7, .slice naa11 2 nac11, .int .i64 9, .bool o] from e1)
             obtain ⟨x, rfl⟩ := upd_of (show x 2 = .agg #[.int .i64 W.ll, .int .i64 W.lh, .int .i64 W.wl, .int .i64 W.wh, .int .i64 W.hl, .int .i64 W.hh, .int .i64 W.ol, .int .i64 W.oh, .int .i64 W.il, .int .i64 W.ih, .bool W.wo] from hd 2 _ (by simp) rfl)
             obtain ⟨x, rfl⟩ := upd_of (show x 5 = .agg #[.int .i64 cx1, .int .i64 cx1] from hd 5 _ (by simp) rfl)
             try dsimp only [upd, Nat.reduceBEq, cond_true, cond_false]
             refine wpOp_step rfl (fun K' hK' => ?_)
             go_simp
             refine (CL3.out _ _ _ _ _ _ v r1_.1 r1_.2.1 r1_.2.2).mono ?_
             rintro e v' ⟨a9, c9, rfl, hg, r⟩
             exact hK' _ _ (hK _ _ hg (at_of rfl (⟨_,_, rfl, r⟩)))
            ·obtain ⟨ha6, hc6, e6, hr6⟩ := hd 6 _ (by simp) rfl
             obtain ⟨x, rfl⟩ := upd_of (show x 6 = .tuple #[.slice ha6 L3.length hc6, .int .i64 0] from e6)
             try dsimp only [upd, Nat.reduceBEq, cond_true, cond_false]
             refine wpOp_step rfl (fun K' hK' => ?_)
             go_simp
             exact hK' _ _ (hK _ _ (Below.refl _ _) (at_of rfl (⟨_,_, rfl, hr6⟩)))
            ·obtain ⟨ha7, hc7, e7, hr7⟩ := hd 7 _ (by simp) rfl
             obtain ⟨x, rfl⟩ := upd_of (show x 7 = .tuple #[.slice ha7 L3.length hc7, .int .i64 0] from e7)
             try dsimp only [upd, Nat.reduceBEq, cond_true, cond_false]
             refine wpOp_step rfl (fun K' hK' => ?_)
             go_simp
             exact hK' _ _ (hK _ _ (Below.refl _ _) (at_of rfl (⟨_,_, rfl, hr7⟩)))
            ·obtain ⟨ha7, hc7, e7, hr7⟩ := hd 7 _ (by simp) rfl
             obtain ⟨x, rfl⟩ := upd_of (show x 7 = .tuple #[.slice ha7 L3.length hc7, .int .i64 0] from e7)
             try dsimp only [upd, Nat.reduceBEq, cond_true, cond_false]
             refine wpOp_step rfl (fun K' hK' => ?_)
             go_simp
             exact hK' _ _ (hK _ _ (Below.refl _ _) (at_of rfl (rfl)))
            ·obtain ⟨ha8, hc8, e8, hr8⟩ := hd 8 _ (by simp) rfl
             obtain ⟨x, rfl⟩ := upd_of (show x 8 = .slice ha8 L3.length hc8 from e8)
             try dsimp only [upd, Nat.reduceBEq, cond_true, cond_false]
             refine wpOp_step rfl (fun K' hK' => ?_)
             go_simp
             exact hK' _ _ (hK _ _ (Below.refl _ _) (at_of rfl (⟨_,_, rfl, hr8⟩)))
           case fin28_1 =>
            rintro x v gv hd
            obtain ⟨x, rfl⟩ := upd_of (show x 9 = .int .i64 0 from hd 9 _ (by omega) rfl)
            obtain ⟨ha10, hc10, e10, hr10⟩ := hd 10 _ (by omega) rfl
            obtain ⟨x, rfl⟩ := upd_of (show x 10 = .slice ha10 L3.length hc10 from e10)
            clear hd
            show wpList Try.prog _ _ (List.drop 11 _) (⟨#[_,_,_,_,_,_,_,_,_,_,_,_,_,_,_,_,_,_,_, .slice ha10 L3.length hc10,_,_,_,_,_,_,_,_,_,_,_,_,_,_,_,_,_,_,_,_,_,_,_,_,_,_,_,_,_,_,_,_,_,_,_,_,_,_,_,_,_,_,_,_,_,_,_,_,_,_,_,_,_,_,_,_,_,_,_,_,_,_,_,_,_,_,_,_,_,_,_,_,_,_,_,_,_,_,_,_,_,_,_,_,_,_,_,_,_,_,_,_,_,_,_,_,_,_,_,_,_,_,_,_,_,_,_,_,_,_,_,_,_,_,_,_,_,_,_,_,_,_,_,_,_,_,_,_,_,_,_,_,_,_,_,_,_,_,_,_,_,_,_,_,_,_,_,_,_,_,_,_,_,_,_,_,_,_,_,_,_,_,_,_,_,_,_,_,_,_,_,_,_,_,_,_,_,_,_,_,_,_,_,_,_,_,_,_,_,_,_,_,_,_,_,_,_,_,_,_,_,_,_,_,_,_,_,_,_,_,_,_,_,_,_,_,_,_,_,_,_,_,_,_,_,_, x 7, x 0, x 1, x 2, x 3, x 4, x 5, x 6, x 8, .int .i64 0,_,_,_,_,_,_,_,_,_,_,_,_,_,_,_,_,_,_,_,_,_,_,_,_,_], []⟩ : Act) v
            simp only [List.drop_succ_cons, List.drop_zero]
            go_wp2
            go_roundw
            case rel => exact Lib.hid ⟨gW.tr gv, .inr (.inr rfl)⟩
            case measure => simp [intOf]
         ·have CLS := Lib.hid (fun pa ta ba pc tc bc v h1 h2 h3 => (CG.out cm cx CS.out pa ta ba pc tc bc v h1 h2 h3).mono fun e w' h => h.none INN.out)
          go_upto_region 31 with fail
          clear c2_ c3_
          refine (show (∀ si : Nat → Value, Code.wp Try.prog _ _ ⟨#[si 0,si 1,si 2,si 3,si 4, .pointer (some ⟨v4, 0, none⟩), .pointer (some ⟨v5, 0, none⟩), .pointer (some ⟨v7, 0, none⟩), .slice ba8 L.length bc8, .int .i64 0, .pointer (some ⟨v10, 0, none⟩), .int .i64 0,si 12,si 13,si 14,si 15,si 16, .int .i64 2,si 18,si 19,si 20,undef,undef,si 23,si 24,si 25,si 26,si 27,si 28,si 29,si 30,si 31,si 32,si 33,si 34,si 35,si 36,si 37,si 38,si 39,si 40,si 41,si 42,si 43,si 44,si 45,si 46,si 47,si 48,si 49,si 50,si 51,si 52,si 53,si 54,si 55,si 56,si 57,si 58,si 59,si 60,si 61,si 62,si 63,si 64,si 65,si 66,si 67,si 68,si 69,si 70,si 71,si 72,si 73,si 74,si 75,si 76,si 77,si 78,si 79,si 80,si 81,si 82,si 83,si 84,si 85,si 86,si 87,si 88,si 89,si 90,si 91,si 92,si 93,si 94,si 95,si 96,si 97,si 98,si 99,si 100,si 101,si 102,si 103,si 104,si 105,si 106,si 107,si 108,si 109,si 110,si 111,si 112,si 113,si 114,si 115,si 116,si 117,si 118,si 119,si 120,si 121,si 122,si 123,si 124,si 125,si 126,si 127,si 128,si 129,si 130,si 131,si 132,si 133,si 134,si 135,si 136,si 137,si 138,si 139,si 140,si 141,si 142,si 143,si 144,si 145,si 146,si 147,si 148,si 149,si 150,si 151,si 152,si 153,si 154,si 155,si 156,si 157,si 158,si 159,si 160,si 161,si 162,si 163,si 164,si 165,si 166,si 167,si 168,si 169,si 170,si 171,si 172,si 173,si 174,si 175,si 176,si 177,si 178,si 179,si 180,si 181,si 182,si 183,si 184,si 185,si 186,si 187,si 188,si 189,si 190,si 191,si 192,si 193,si 194,si 195,si 196,si 197,si 198,si 199,si 200,si 201,si 202,si 203,si 204,si 205,si 206,si 207,si 208,si 209,si 210,si 211,si 212,si 213,si 214,si 215,si 216,si 217,si 218,si 219,si 220,si 221,si 222,si 223,si 224,si 225,si 226,si 227,si 228,si 229,si 230,si 231,si 232,si 233,si 234,si 235,si 236,si 237,si 238,si 239,si 240,si 241,si 242,si 243,si 244,si 245,si 246,si 247,si 248,si 249,si 250,si 251,si 252,si 253,si 254,si 255,si 256,si 257,si 258,si 259,si 260,si 261,si 262,undef,undef,undef,undef,undef,undef,undef,undef,undef,undef,undef,undef,undef,undef,undef,undef,undef,undef], []⟩ _) → _ from fun h => h ((fun l : List Value => fun i => l.getD i undef) [_,_,_,_,_,undef,undef,undef,undef,undef,undef,undef,_,_,_,_,_,undef,_,_,_,undef,undef,_,_,_,_,_,_,_,_,_,_,_,_,_,_,_,_,_,_,_,_,_,_,_,_,_,_,_,_,_,_,_,_,_,_,_,_,_,_,_,_,_,_,_,_,_,_,_,_,_,_,_,_,_,_,_,_,_,_,_,_,_,_,_,_,_,_,_,_,_,_,_,_,_,_,_,_,_,_,_,_,_,_,_,_,_,_,_,_,_,_,_,_,_,_,_,_,_,_,_,_,_,_,_,_,_,_,_,_,_,_,_,_,_,_,_,_,_,_,_,_,_,_,_,_,_,_,_,_,_,_,_,_,_,_,_,_,_,_,_,_,_,_,_,_,_,_,_,_,_,_,_,_,_,_,_,_,_,_,_,_,_,_,_,_,_,_,_,_,_,_,_,_,_,_,_,_,_,_,_,_,_,_,_,_,_,_,_,_,_,_,_,_,_,_,_,_,_,_,_,_,_,_,_,_,_,_,_,_,_,_,_,_,_,_,_,_,_,_,_,_,_,_,_,_,_,_,_,_,_,_,_,_,_,_,_,_,_,_,_,_])) ?_
          intro si
          dsimp only
          refine wp_region_facts 9 [(1, 0), (4, 1), (4, 2), (4, 3), (5, 4), (6, 5), (7, 5), (8, 6)] (fun x => ⟨#[si 0,si 1,si 2,si 3,si 4, .pointer (some ⟨v4, 0, none⟩), .pointer (some ⟨v5, 0, none⟩), .pointer (some ⟨v7, 0, none⟩), .slice ba8 L.length bc8, .int .i64 0, .pointer (some ⟨v10, 0, none⟩), .int .i64 0,si 12,si 13,si 14,si 15,si 16, .int .i64 2,si 18,si 19,si 20, x 8,undef,si 23,si 24,si 25,si 26,si 27,si 28,si 29,si 30,si 31,si 32,si 33,si 34,si 35,si 36,si 37,si 38,si 39,si 40,si 41,si 42,si 43,si 44,si 45,si 46,si 47,si 48,si 49,si 50,si 51,si 52,si 53,si 54,si 55,si 56,si 57,si 58,si 59,si 60,si 61,si 62,si 63,si 64,si 65,si 66,si 67,si 68,si 69,si 70,si 71,si 72,si 73,si 74,si 75,si 76,si 77,si 78,si 79,si 80,si 81,si 82,si 83,si 84,si 85,si 86,si 87,si 88,si 89,si 90,si 91,si 92,si 93,si 94,si 95,si 96,si 97,si 98,si 99,si 100,si 101,si 102,si 103,si 104,si 105,si 106,si 107,si 108,si 109,si 110,si 111,si 112,si 113,si 114,si 115,si 116,si 117,si 118,si 119,si 120,si 121,si 122,si 123,si 124,si 125,si 126,si 127,si 128,si 129,si 130,si 131,si 132,si 133,si 134,si 135,si 136,si 137,si 138,si 139,si 140,si 141,si 142,si 143,si 144,si 145,si 146,si 147,si 148,si 149,si 150,si 151,si 152,si 153,si 154,si 155,si 156,si 157,si 158,si 159,si 160,si 161,si 162,si 163,si 164,si 165,si 166,si 167,si 168,si 169,si 170,si 171,si 172,si 173,si 174,si 175,si 176,si 177,si 178,si 179,si 180,si 181,si 182,si 183,si 184,si 185,si 186,si 187,si 188,si 189,si 190,si 191,si 192,si 193,si 194,si 195,si 196,si 197,si 198,si 199,si 200,si 201,si 202,si 203,si 204,si 205,si 206,si 207,si 208,si 209,si 210,si 211,si 212,si 213,si 214,si 215,si 216,si 217,si 218,si 219,si 220,si 221,si 222,si 223,si 224,si 225,si 226,si 227,si 228,si 229,si 230,si 231,si 232,si 233,si 234,si 235,si 236,si 237,si 238,si 239,si 240,si 241,si 242,si 243,si 244,si 245,si 246,si 247,si 248,si 249,si 250,si 251,si 252,si 253,si 254,si 255,si 256,si 257,si 258,si 259,si 260,si 261,si 262, x 5, x 0, x 1, x 2, x 3, x 4, x 6, x 7,undef,undef,undef,undef,undef,undef,undef,undef,undef,undef], []⟩) (fun _ => undef) [fun _ x => x = .agg #[.int .i64 30, .slice ka3 4 kc3, .int .i64 hei, .slice ka7 2 kc7, .slice ka11 2 kc11, .int .i64 9, .bool o], fun v x => ∃ naa3 nac3 naa7 nac7 naa11 nac11, x = .agg #[.int .i64 30, .slice naa3 4 nac3, .int .i64 hei, .slice naa7 2 nac7, .slice naa11 2 nac11, .int .i64 9, .bool o] ∧ (IRow v naa3 [a0, a1, a2, a3] ∧ IRow v naa7 [t0, t1] ∧ IRow v naa11 [s0, s1]), fun _ x => x = .agg #[.int .i64 W.ll, .int .i64 W.lh, .int .i64 W.wl, .int .i64 W.wh, .int .i64 W.hl, .int .i64 W.hh, .int .i64 W.ol, .int .i64 W.oh, .int .i64 W.il, .int .i64 W.ih, .bool W.wo], fun _ x => x = .agg #[.int .i64 cm, .int .i64 cx], fun v x => ∃ sl4 cp4, x = .tuple #[.slice sl4 0 cp4, .int .i64 0], fun v x => ∃ sl5 cp5, x = .tuple #[.slice sl5 0 cp5, .int .i64 0], fun v x => ∃ sl6 cp6, x = .slice sl6 0 cp6, fun _ x => x = .int .i64 0, fun v x => ∃ sl8 cp8, x = .slice sl8 0 cp8] (by rfl) (by kernel_rfl) (by kernel_rfl) (by kernel_rfl) (stays_cons (Stays.eq _) (stays_cons ((show Stays (fun v x => ∃ naa3 nac3 naa7 nac7 naa11 nac11, x = .agg #[.int .i64 30, .slice naa3 4 nac3, .int .i64 hei, .slice naa7 2 nac7, .slice naa11 2 nac11, .int .i64 9, .bool o] ∧ (IRow v naa3 [a0, a1, a2, a3] ∧ IRow v naa7 [t0, t1] ∧ IRow v naa11 [s0, s1])) from fun v v' x g ⟨a, b, c, d, e, f, h, r1, r2, r3⟩ => ⟨a, b, c, d, e, f, h, r1.grow g, r2.grow g, r3.grow g⟩)) (stays_cons (Stays.eq _) (stays_cons (Stays.eq _) (stays_cons ((show Stays (fun v x => ∃ sl4 cp4, x = .tuple #[.slice sl4 0 cp4, .int .i64 0]) from fun v v' x g h => h)) (stays_cons ((show Stays (fun v x => ∃ sl5 cp5, x = .tuple #[.slice sl5 0 cp5, .int .i64 0]) from fun v v' x g h => h)) (stays_cons ((show Stays (fun v x => ∃ sl6 cp6, x = .slice sl6 0 cp6) from fun v v' x g h => h)) (stays_cons (Stays.eq _) (stays_cons ((show Stays (fun v x => ∃ sl8 cp8, x = .slice sl8 0 cp8) from fun v v' x g h => h)) stays_nil))))))))) ?step31 ?fin31
          case step31 => as_aux_lemma =>
           rintro i hi x v gv hd K hK
           have hi8 : i = 0 ∨ i = 1 ∨ i = 2 ∨ i = 3 ∨ i = 4 ∨ i = 5 ∨ i = 6 ∨ i = 7 ∨ i = 8 := by omega
           rcases hi8 with rfl | rfl | rfl | rfl | rfl | rfl | rfl | rfl | rfl
           ·try dsimp only [upd, Nat.reduceBEq, cond_true, cond_false]
            refine wpOp_step rfl (fun K' hK' => ?_)
            rw [if_pos (by rfl)]
            refine wp_load_mid 24 _ rfl v4 0 (by rfl) [.int .i64 30, .slice ka3 4 kc3, .int .i64 hei, .slice ka7 2 kc7, .slice ka11 2 kc11, .int .i64 9, .bool o] _ (fun j u hu => by rw [Nat.zero_add]; exact (oL.keep gv).2 j u hu) Try.underlying24 rfl (by kernel_rfl) ?_
            exact hK' _ _ (hK _ _ (Below.refl _ _) (at_of rfl (rfl)))
           ·obtain ⟨x, rfl⟩ := upd_of (show x 0 = .agg #[.int .i64 30, .slice ka3 4 kc3, .int .i64 hei, .slice ka7 2 kc7, .slice ka11 2 kc11, .int .i64 9, .bool o] from hd 0 _ (by simp) rfl)
            try dsimp only [upd, Nat.reduceBEq, cond_true, cond_false]
            refine wpOp_step rfl (fun K' hK' => ?_)
            go_simp
            refine (own4_any a0 a1 a2 a3 t0 t1 s0 s1 hei o _ _ _ _ _ _ v (r2.grow gv) (r3.grow gv) (r4.grow gv)).mono ?_
            rintro e v' ⟨w3, b3, w7, b7, w11, b11, rfl, hg, r1, r2, r3⟩
            exact hK' _ _ (hK _ _ hg (at_of rfl (⟨_,_,_,_,_,_, rfl, r1, r2, r3⟩)))
           ·try dsimp only [upd, Nat.reduceBEq, cond_true, cond_false]
            refine wpOp_step rfl (fun K' hK' => ?_)
            rw [if_pos (by rfl)]
            refine wp_load_mid 48 _ rfl v7 0 (by rfl) [.int .i64 W.ll, .int .i64 W.lh, .int .i64 W.wl, .int .i64 W.wh, .int .i64 W.hl, .int .i64 W.hh, .int .i64 W.ol, .int .i64 W.oh, .int .i64 W.il, .int .i64 W.ih, .bool W.wo] _ (fun j u hu => by rw [Nat.zero_add]; exact (oW.keep gv).2 j u hu) Try.underlying48 rfl (by kernel_rfl) ?_
            exact hK' _ _ (hK _ _ (Below.refl _ _) (at_of rfl (rfl)))
           ·try dsimp only [upd, Nat.reduceBEq, cond_true, cond_false]
            refine wpOp_step rfl (fun K' hK' => ?_)
            rw [if_pos (by rfl)]
            refine wp_load_mid 37 _ rfl v10 0 (by rfl) [.int .i64 cm, .int .i64 cx] _ (fun j u hu => by rw [Nat.zero_add]; exact (oS.keep gv).2 j u hu) Try.underlying37 rfl (by kernel_rfl) ?_
            exact hK' _ _ (hK _ _ (Below.refl _ _) (at_of rfl (rfl)))
           ·obtain ⟨naa3, nac3, naa7, nac7, naa11, nac11, e1, r1_⟩ := hd 1 _ (by simp) rfl
            obtain ⟨x, rfl⟩ := upd_of (show x 1 = .agg #[.int .i64 30, .slice naa3 4 nac3, .int .i64 hei, .slice naa7 2 nac7, .slice naa11 2 nac11, .int .i64 9, .bool o] from e1)
            obtain ⟨x, rfl⟩ := upd_of (show x 2 = .agg #[.int .i64 W.ll, .int .i64 W.lh, .int .i64 W.wl, .int .i64 W.wh, .int .i64 W.hl, .int .i64 W.hh, .int .i64 W.ol, .int .i64 W.oh, .int .i64 W.il, .int .i64 W.ih, .bool W.wo] from hd 2 _ (by simp) rfl)
            obtain ⟨x, rfl⟩ := upd_of (show x 3 = .agg #[.int .i64 cm, .int .i64 cx] from hd 3 _ (by simp) rfl)
            try dsimp only [upd, Nat.reduceBEq, cond_true, cond_false]
            refine wpOp_step rfl (fun K' hK' => ?_)
            go_simp
            refine (CLS.out _ _ _ _ _ _ v r1_.1 r1_.2.1 r1_.2.2).mono ?_
            rintro e v' ⟨a9, c9, rfl, hg⟩
            exact hK' _ _ (hK _ _ hg (at_of rfl (⟨_,_, rfl⟩)))
           ·obtain ⟨sl4, cp4, e4⟩ := hd 4 _ (by simp) rfl
            obtain ⟨x, rfl⟩ := upd_of (show x 4 = .tuple #[.slice sl4 0 cp4, .int .i64 0] from e4)
            try dsimp only [upd, Nat.reduceBEq, cond_true, cond_false]
            refine wpOp_step rfl (fun K' hK' => ?_)
            go_simp
            exact hK' _ _ (hK _ _ (Below.refl _ _) (at_of rfl (⟨_,_, rfl⟩)))
           ·obtain ⟨sl5, cp5, e5⟩ := hd 5 _ (by simp) rfl
            obtain ⟨x, rfl⟩ := upd_of (show x 5 = .tuple #[.slice sl5 0 cp5, .int .i64 0] from e5)
            try dsimp only [upd, Nat.reduceBEq, cond_true, cond_false]
            refine wpOp_step rfl (fun K' hK' => ?_)
            go_simp
            exact hK' _ _ (hK _ _ (Below.refl _ _) (at_of rfl (⟨_,_, rfl⟩)))
           ·obtain ⟨sl5, cp5, e5⟩ := hd 5 _ (by simp) rfl
            obtain ⟨x, rfl⟩ := upd_of (show x 5 = .tuple #[.slice sl5 0 cp5, .int .i64 0] from e5)
            try dsimp only [upd, Nat.reduceBEq, cond_true, cond_false]
            refine wpOp_step rfl (fun K' hK' => ?_)
            go_simp
            exact hK' _ _ (hK _ _ (Below.refl _ _) (at_of rfl (rfl)))
           ·obtain ⟨sl6, cp6, e6⟩ := hd 6 _ (by simp) rfl
            obtain ⟨x, rfl⟩ := upd_of (show x 6 = .slice sl6 0 cp6 from e6)
            try dsimp only [upd, Nat.reduceBEq, cond_true, cond_false]
            refine wpOp_step rfl (fun K' hK' => ?_)
            go_simp
            exact hK' _ _ (hK _ _ (Below.refl _ _) (at_of rfl (⟨_,_, rfl⟩)))
          case fin31 =>
           rintro x v gv hd
           obtain ⟨x, rfl⟩ := upd_of (show x 7 = .int .i64 0 from hd 7 _ (by omega) rfl)
           obtain ⟨sl8, cp8, e8⟩ := hd 8 _ (by omega) rfl
           obtain ⟨x, rfl⟩ := upd_of (show x 8 = .slice sl8 0 cp8 from e8)
           clear hd
           show wpList Try.prog _ _ (List.drop 9 _) (⟨#[_,_,_,_,_,_,_,_,_,_,_,_,_,_,_,_,_,_,_,_,_, .slice sl8 0 cp8,_,_,_,_,_,_,_,_,_,_,_,_,_,_,_,_,_,_,_,_,_,_,_,_,_,_,_,_,_,_,_,_,_,_,_,_,_,_,_,_,_,_,_,_,_,_,_,_,_,_,_,_,_,_,_,_,_,_,_,_,_,_,_,_,_,_,_,_,_,_,_,_,_,_,_,_,_,_,_,_,_,_,_,_,_,_,_,_,_,_,_,_,_,_,_,_,_,_,_,_,_,_,_,_,_,_,_,_,_,_,_,_,_,_,_,_,_,_,_,_,_,_,_,_,_,_,_,_,_,_,_,_,_,_,_,_,_,_,_,_,_,_,_,_,_,_,_,_,_,_,_,_,_,_,_,_,_,_,_,_,_,_,_,_,_,_,_,_,_,_,_,_,_,_,_,_,_,_,_,_,_,_,_,_,_,_,_,_,_,_,_,_,_,_,_,_,_,_,_,_,_,_,_,_,_,_,_,_,_,_,_,_,_,_,_,_,_,_,_,_,_,_,_,_,_,_,_,_,_,_,_,_,_,_,_,_,_,_,_,_,_, x 5, x 0, x 1, x 2, x 3, x 4, x 6, .int .i64 0,_,_,_,_,_,_,_,_,_,_], []⟩ : Act) v
           simp only [List.drop_succ_cons, List.drop_zero]
           go_wp2_with (first | (go_at_call 15; refine (known_any _).mono ?_; rintro e w10 ⟨rfl, g10⟩))
           go_ret
           exact ⟨rfl, (gU.tr gv).tr g10⟩

end Go.Proofs.Ytpfnlldnddjbmaa

namespace Go.Proofs.Ytpfnlldnddjbmaa
set_option linter.unusedVariables false
set_option linter.unusedSimpArgs false
open Go.RowKit Go.ChangeShapes

section
variable {H : Type} {enc : TypeId × Value → H} {P : Program} {W W' : World}

theorem trodAll_stays (hl : laidOutB P = true) (g : Gr W W') {sp : Nat → Bool} : ∀ (ts : List TypeId) (vs : List Value) (ds : List (DataW H)) (ps : List MemPlace), (∀ t ∈ ts, P.readableRec t = true ∧ t < P.types.size) →
    DataW.TrodAll enc P W 0 (fun _ => true) true ts vs ds ps → (∀ p ∈ ps, p.block < W.heap.size) → (∀ p ∈ ps, sp p.block = true) → DataW.TrodAll enc P W' 0 sp true ts vs ds ps
  | [], [], [], _, _, h, _, _ => h
  | t :: ts, v :: vs, d :: ds, ps, ht, h, hlt, hsp => by
    obtain ⟨p, q, h1, h2, rfl⟩ := h
    exact ⟨p, q, WideElems.Trod_stays hl (ht t (by simp)).1 (ht t (by simp)).2 h1 (fun x hx => g.same (hlt x (by simp [hx]))) (fun x hx => hsp x (by simp [hx])),
      trodAll_stays hl g ts vs ds q (fun u hu => ht u (by simp [hu])) h2 (fun x hx => hlt x (by simp [hx])) (fun x hx => hsp x (by simp [hx])), rfl⟩

/-- A law that returned true in a world that only grew, its arguments as they were. -/
theorem law_true {f : Func} {s : ChangeSpec} {bt : TypeId} {args : Array Value} {ds : List (DataW H)} {p : List MemPlace}
    (hl : laidOutB P = true) (hpt : ∀ t ∈ f.params.toList, P.readableRec t = true ∧ t < P.types.size) (hbt : P.underlying bt = some .bool) (hrt : f.resultTypes = #[bt]) (hsv : s.vars = [])
    (hs : s.fn H ds = { results := [.lit (.bool true)], args := ds })
    (hW : DataW.Whole enc P f.params.toList s.vars false W args.toList ds [] p) (g : Gr W W') :
    s.post enc P f false true false false W args (.bool true) W' := by
  have hW0 := hW
  obtain ⟨pa, pv, hA, hV, hp, hfz, hnd⟩ := hW0
  rw [hsv] at hV
  have hpv : pv = [] := hV
  subst hpv
  rw [List.append_nil] at hp
  subst hp
  have hold : ∀ x ∈ p, x.block < W.heap.size := fun x hx => hW.lt x hx
  have hargs : ∀ sp : Nat → Bool, (∀ x ∈ p, sp x.block = true) → DataW.TrodAll enc P W' 0 sp true f.params.toList args.toList ds p := fun sp hsp => trodAll_stays hl g _ _ _ _ hpt hA hold hsp
  have hres : ∀ (b : Nat) (sp : Nat → Bool) (hd : Bool), DataW.TrodAll enc P W' b sp hd f.resultTypes.toList ((Value.bool true).resultList f.resultTypes.size) [.lit (.bool true)] [] := fun b sp hd => by
    rw [hrt]
    exact trodAll_cons_mk (shut_bool hbt _) trodAll_mk0
  have hok : ∀ (j : Nat) (t : TypeId) (r : Value), f.resultTypes[j]? = some t → ((Value.bool true).resultList f.resultTypes.size)[j]? = some r → Value.okWide P W' .any 0 t r := ok_one hrt rfl (okWide_bool_mk hbt _)
  have es : s.fn H (ds ++ []) = { results := [.lit (.bool true)], args := ds } := by rw [List.append_nil]; exact hs
  have hsp0 : ∀ x ∈ p, (fun b => decide (b < W.heap.size)) x.block = true := fun x hx => by simpa using hold x hx
  refine ⟨ds, [], p, [], p, [], hW, ?_, ?_, ?_, World.keptBut_mono (fun x hx => hx.elim) (g.frame (fun _ => False)), fun _ => ?_⟩
  · rw [es]; exact hres _ _ _
  · rw [es]; exact hargs _ hsp0
  · rw [es, hsv]; rfl
  · refine ⟨hok, [.lit (.bool true)] ++ ds, [], ([] ++ p) ++ [], ⟨[] ++ p, [], trodAll_append (hargs (fun _ => true) (fun _ _ => rfl)) (hres _ _ _), ?_, rfl, ?_, ?_⟩, ?_⟩
    · rw [hsv]; rfl
    · intro b off hx
      have hx' : MemPlace.cell b off ∈ p := by simpa using hx
      have hb : b < W.heap.size := hold _ hx'
      rw [g.frozen (p := ⟨b, off, none⟩) hb]
      exact hfz b off hx'
    · intro ha
      cases ha
    · intro x hx _
      simpa using hx

/-- Made of integers of kind k alone, cell by cell: by looking. -/
def allK (P : Program) (k : IntKind) : Nat → TypeId → Bool
  | 0, _ => false
  | f + 1, t => match P.underlying t with
    | some (.int k') => decide (k' = k) && decide (P.cellsOf t = 1)
    | some (.struct fs) => fs.toList.all (fun x => allK P k f x.type) && (List.range (P.cellsOf t)).all fun i => fs.toList.any fun x => decide (x.offset ≤ i) && decide (i < x.offset + P.cellsOf x.type)
    | some (.array n e) => allK P k f e && (List.range (P.cellsOf t)).all fun i => (List.range n).any fun j => decide (j * P.cellsOf e ≤ i) && decide (i < j * P.cellsOf e + P.cellsOf e)
    | _ => false

theorem piece {cs : List Value} {o n i : Nat} (h1 : o ≤ i) (h2 : i < o + n) : ((cs.drop o).take n)[i - o]? = cs[i]? := by
  rw [List.getElem?_take_of_lt (by omega), List.getElem?_drop, show o + (i - o) = i by omega]

theorem mapM_at {α β : Type} {f : α → Option β} : ∀ (l : List α) (ys : List β), l.mapM f = some ys → ∀ a ∈ l, ∃ y, f a = some y
  | [], _, _, a, ha => by cases ha
  | b :: l, ys, h, a, ha => by
    rw [List.mapM_cons] at h
    cases h1 : f b with
    | none => simp [h1] at h
    | some y =>
      cases h2 : l.mapM f with
      | none => simp [h1, h2] at h
      | some zs =>
        rcases List.mem_cons.1 ha with rfl | ha
        · exact ⟨y, h1⟩
        · exact mapM_at l zs h2 a ha

theorem int_open {k : IntKind} {base : Nat} {sp : Nat → Bool} {held : Bool} {t : TypeId} (hu : P.underlying t = some (.int k)) {fuel : Nat} {cs : List Value} {x : DataW H × List MemPlace} (hx : DataW.trod enc P W base sp held fuel t cs = some x) :
    ∃ n, cs = [.int k n] ∧ (Lit.int k n).wf = true := by
  obtain ⟨n, e, _, hw⟩ := DataW.trod_int hu hx
  exact ⟨n, e, hw⟩

theorem allK_open {k : IntKind} {base : Nat} {sp : Nat → Bool} {held : Bool} : ∀ (f : Nat) (t : TypeId), allK P k f t = true → ∀ (fuel : Nat) (cs : List Value) (x : DataW H × List MemPlace), DataW.trod enc P W base sp held fuel t cs = some x →
    cs.length = P.cellsOf t ∧ ∀ i, i < cs.length → ∃ n, cs[i]? = some (.int k n) ∧ (Lit.int k n).wf = true
  | 0, _, h, _, _, _, _ => by simp [allK] at h
  | f + 1, t, h, 0, cs, x, hx => by simp [DataW.trod] at hx
  | f + 1, t, h, fuel + 1, cs, x, hx => by
    unfold allK at h
    split at h
    · rename_i k' hu
      simp only [Bool.and_eq_true, decide_eq_true_eq] at h
      obtain ⟨rfl, hc⟩ := h
      obtain ⟨n, rfl, hw⟩ := int_open hu hx
      refine ⟨by rw [hc]; rfl, fun i hi => ?_⟩
      obtain rfl : i = 0 := by simpa using hi
      exact ⟨n, rfl, hw⟩
    · rename_i fs hu
      simp only [Bool.and_eq_true] at h
      obtain ⟨ha, hcov⟩ := h
      unfold DataW.trod at hx
      rw [hu] at hx
      simp only at hx
      split at hx
      case isFalse => cases hx
      rename_i hl
      refine ⟨hl, fun i hi => ?_⟩
      obtain ⟨xs, hxs, _⟩ := Option.map_eq_some_iff.1 hx
      have hci := List.all_eq_true.1 hcov i (by simp; omega)
      obtain ⟨fd, hfd, hin⟩ := List.any_eq_true.1 hci
      simp only [Bool.and_eq_true, decide_eq_true_eq] at hin
      obtain ⟨y, hy⟩ := mapM_at _ _ hxs fd hfd
      obtain ⟨hl', hat⟩ := allK_open f fd.type (List.all_eq_true.1 ha fd hfd) fuel _ y hy
      obtain ⟨n, hn, hw⟩ := hat (i - fd.offset) (by rw [hl']; omega)
      rw [piece hin.1 hin.2] at hn
      exact ⟨n, hn, hw⟩
    · rename_i m e hu
      simp only [Bool.and_eq_true] at h
      obtain ⟨ha, hcov⟩ := h
      unfold DataW.trod at hx
      rw [hu] at hx
      simp only at hx
      split at hx
      case isFalse => cases hx
      rename_i hl
      refine ⟨hl, fun i hi => ?_⟩
      obtain ⟨xs, hxs, _⟩ := Option.map_eq_some_iff.1 hx
      have hci := List.all_eq_true.1 hcov i (by simp; omega)
      obtain ⟨j, hj, hin⟩ := List.any_eq_true.1 hci
      simp only [Bool.and_eq_true, decide_eq_true_eq] at hin
      obtain ⟨y, hy⟩ := mapM_at _ _ hxs j hj
      obtain ⟨hl', hat⟩ := allK_open f e ha fuel _ y hy
      obtain ⟨n, hn, hw⟩ := hat (i - j * P.cellsOf e) (by rw [hl']; omega)
      rw [piece hin.1 hin.2] at hn
      exact ⟨n, hn, hw⟩
    · cases h

theorem ints_of {k : IntKind} : ∀ (cs : List Value), (∀ i, i < cs.length → ∃ n, cs[i]? = some (.int k n) ∧ (Lit.int k n).wf = true) → ∃ l : List Int, cs = l.map (Value.int k) ∧ ∀ n ∈ l, (Lit.int k n).wf = true
  | [], _ => ⟨[], rfl, by simp⟩
  | c :: cs, h => by
    obtain ⟨n, hn, hw⟩ := h 0 (by simp)
    obtain ⟨l, rfl, hl⟩ := ints_of cs (fun i hi => by simpa using h (i + 1) (by simpa using hi))
    simp only [List.getElem?_cons_zero, Option.some.injEq] at hn
    subst hn
    refine ⟨n :: l, rfl, fun m hm => ?_⟩
    rcases List.mem_cons.1 hm with rfl | hm
    · exact hw
    · exact hl m hm

/-- A struct or array by value, of integers of one kind: its integers. -/
theorem agg_ints {k : IntKind} {base : Nat} {sp : Nat → Bool} {held : Bool} {f : Nat} {t : TypeId} (ha : allK P k f t = true) (hc : P.cellsOf t ≠ 1) {v : Value} {d : DataW H} {ps : List MemPlace} (h : DataW.Trod enc P W base sp held t v d ps) :
    ∃ l : List Int, v = .agg (l.map (Value.int k)).toArray ∧ l.length = P.cellsOf t ∧ ∀ n ∈ l, (Lit.int k n).wf = true := by
  obtain ⟨fuel, hf⟩ := h
  obtain ⟨hl, hat⟩ := allK_open f t ha fuel _ _ hf
  obtain ⟨l, hcs, hw⟩ := ints_of _ hat
  have hlen : l.length = P.cellsOf t := by rw [← hl, hcs]; simp
  refine ⟨l, ?_, hlen, hw⟩
  unfold Value.cells at hcs hl
  split at hcs
  · rename_i cs
    rw [← hcs]
  · rename_i hna
    exfalso
    apply hc
    rw [← hlen]
    have := congrArg List.length hcs
    simpa using this.symm

/-- A slice of bytes that came in. -/
theorem row_bytes {e : TypeId} {t : TypeId} {r : Reach} {b0 : Nat} (ht : P.underlying t = some (.slice e)) (he : P.underlying e = some (.int .u8)) (hc : P.cellsOf e = 1) {v : Value} {d : DataW H} {ps : List MemPlace} (hval : Value.okWide P W r b0 t v)
    (h : DataW.Trod enc P W 0 (fun _ => true) true t v d ps) :
    ∃ (a : Option Addr) (l : List Int) (cap : Nat), v = .slice a l.length cap ∧ URow W a l ∧ Bytes l := by
  obtain ⟨fuel, hf⟩ := h
  obtain ⟨a0, len0, cap0, rfl⟩ := Go.WideShapes.okWide_slice ht hval
  rcases open_ints ht he hc hf with ⟨hcs, _⟩ | ⟨a, len, cap, zs, hcs, _, hle, hmax, hlen, _, hcell, hwf⟩
  · have hcs' : [Value.slice a0 len0 cap0] = [.slice none 0 0] := by simpa [Value.cells] using hcs
    cases hcs'
    exact ⟨none, [], 0, rfl, RowOf.nil, fun x hx => by cases hx⟩
  · have hcs' : [Value.slice a0 len0 cap0] = [.slice (some a) len cap] := by simpa [Value.cells] using hcs
    cases hcs'
    simp only [if_true] at hlen
    have hl : (zs.take len0).length = len0 := by simp; omega
    refine ⟨some a, zs.take len0, cap0, by rw [hl], ⟨by rw [hl]; exact Nat.le_trans hle hmax, fun j x hx => ?_⟩, fun x hx => bounds_u8 (hwf x (List.mem_of_mem_take hx))⟩
    have hj : j < len0 := by
      have := (List.getElem?_eq_some_iff.1 hx).1
      omega
    have hz : zs[j]? = some x := by
      rw [List.getElem?_take_of_lt hj] at hx
      exact hx
    have h0 := hcell 0 (by omega)
    rw [show a.add 0 = a by simp [Addr.add]] at h0
    have hb := World.block_lt_of_cell? W _ h0
    have hs : a.spot = none := by
      cases hsp : a.spot with
      | none => rfl
      | some q =>
        exfalso
        unfold World.cell? at h0
        split at h0
        · simp [hsp] at h0
        · cases h0
    obtain ⟨b, off, sp⟩ := a
    simp only at hs
    subst hs
    have h1 := hcell j (by omega)
    have e1 : zs.getD j 0 = x := by simp [hz]
    rw [e1, show (Addr.mk b off none).add j = ⟨b, off + j, none⟩ by unfold Addr.add; split <;> simp_all] at h1
    refine ⟨b, off, rfl, hb, fun i v hv => ?_⟩
    have hi : i = 0 := by
      have := (List.getElem?_eq_some_iff.1 hv).1
      simpa [encU] using this
    subst hi
    simp [encU] at hv
    subst hv
    simpa using h1

end

end Go.Proofs.Ytpfnlldnddjbmaa

namespace Go.Proofs.Ytpfnlldnddjbmaa
set_option linter.unusedVariables false
set_option linter.unusedSimpArgs false
open Go.RowKit Go.ChangeShapes

theorem list_of {α : Type} (p : Nat → α → Prop) : ∀ n, (∀ j, j < n → ∃ x, p j x) → ∃ l : List α, l.length = n ∧ ∀ j x, l[j]? = some x → p j x
  | 0, _ => ⟨[], rfl, fun j x h => by simp at h⟩
  | n + 1, h => by
    obtain ⟨l, hl, hp⟩ := list_of p n (fun j hj => h j (by omega))
    obtain ⟨x, hx⟩ := h n (by omega)
    refine ⟨l ++ [x], by simp [hl], fun j y hy => ?_⟩
    by_cases hj : j < l.length
    · rw [List.getElem?_append_left hj] at hy
      exact hp j y hy
    · rw [List.getElem?_append_right (by omega)] at hy
      have h1 := (List.getElem?_eq_some_iff.1 hy).1
      simp at h1
      obtain rfl : j = n := by omega
      simp [hl] at hy
      subst hy
      exact hx

section
variable {H : Type} {enc : TypeId × Value → H} {P : Program} {W : World}

/-- A slice of arrays of integers of one kind. -/
theorem row_flat {α : Type} {en : α → List Value} {G : α → Prop} {e t : TypeId} {k : IntKind} {f sz fuel : Nat} {cs : List Value} {x : DataW H × List MemPlace} (ht : P.underlying t = some (.slice e)) (ha : allK P k f e = true) (hc : P.cellsOf e = sz) (h0 : 0 < sz)
    (hmk : ∀ l : List Int, l.length = sz → (∀ n ∈ l, (Lit.int k n).wf = true) → ∃ y : α, en y = l.map (Value.int k) ∧ G y)
    (hx : DataW.trod enc P W 0 (fun _ => true) true fuel t cs = some x) :
    ∃ (a : Option Addr) (l : List α) (cap : Nat), cs = [.slice a l.length cap] ∧ RowOf sz en W a l ∧ ∀ v ∈ l, G v := by
  rcases DataW.trod_slice ht hx with ⟨h, _⟩ | ⟨a, len, cap, elems, rest, n, _, rfl, _, hb, hl, hm, hlen, hel, _, _⟩
  · exact ⟨none, [], 0, h, RowOf.nil, fun v hv => by cases hv⟩
  have hj : ∀ j, j < len → ∃ y : α, G y ∧ ∃ l : List Int, l.length = sz ∧ en y = l.map (Value.int k) ∧ ∀ i, i < sz → W.cell? ((a.add (j * sz)).add i) = (l.map (Value.int k))[i]? := by
    intro j hj
    have h1 := hel j hj
    rw [List.getElem?_eq_getElem (by omega)] at h1
    obtain ⟨cs', hcs, hy⟩ := Option.bind_eq_some_iff.1 h1
    obtain ⟨hl', hat⟩ := allK_open f e ha _ _ _ hy
    obtain ⟨l, hcl, hw⟩ := ints_of _ hat
    have hll : l.length = sz := by rw [← hc, ← hl', hcl]; simp
    obtain ⟨y, hy1, hy2⟩ := hmk l hll hw
    refine ⟨y, hy2, l, hll, hy1, fun i hi => ?_⟩
    have := (World.cells?_some hcs).2.2 i (by omega)
    rw [hc, hcl] at this
    exact this
  obtain ⟨l, hlen', hp⟩ := list_of _ len hj
  refine ⟨some a, l, cap, by rw [hlen'], ⟨?_, fun j y hy => ?_⟩, fun v hv => ?_⟩
  · rw [hlen']
    have : maxLen ≤ 9223372036854775807 := by decide
    omega
  · obtain ⟨_, li, hli, hen, hcell⟩ := hp j y hy
    have z0 := hcell 0 h0
    have hi0 : (li.map (Value.int k))[0]? = some (.int k (li[0]'(by omega))) := by simp [List.getElem?_eq_getElem (show 0 < li.length by omega)]
    rw [hi0, show (a.add (j * sz)).add 0 = a.add (j * sz) by simp [Addr.add]] at z0
    have hs : a.spot = none := by
      cases hsp : a.spot with
      | none => rfl
      | some q =>
        exfalso
        have hj0 : j < len := by have := (List.getElem?_eq_some_iff.1 hy).1; omega
        obtain ⟨_, _, li0, hli0, _, hc0⟩ := hj 0 (by omega)
        have z1 := hc0 0 h0
        have hi1 : (li0.map (Value.int k))[0]? = some (.int k (li0[0]'(by omega))) := by simp [List.getElem?_eq_getElem (show 0 < li0.length by omega)]
        rw [hi1, show (a.add (0 * sz)).add 0 = a by simp [Addr.add]] at z1
        unfold World.cell? at z1
        split at z1
        · simp [hsp] at z1
        · cases z1
    obtain ⟨b, off, sp⟩ := a
    simp only at hs
    subst hs
    refine ⟨b, off, rfl, ?_, fun i v hv => ?_⟩
    · have := World.block_lt_of_cell? W _ z0
      rw [WideShapes.add_plain] at this
      exact this
    · have hi : i < sz := by
        have := (List.getElem?_eq_some_iff.1 hv).1
        rw [hen] at this
        simpa [hli] using this
      have := hcell i hi
      rw [WideShapes.add_plain, WideShapes.add_plain, ← hen, hv] at this
      exact this
  · obtain ⟨j, hjv⟩ := List.getElem?_of_mem hv
    exact (hp j v hjv).1

/-- A struct of three slices: each by itself. -/
theorem struct3 {t t0 t1 t2 : TypeId} {fs : Array Field} {fuel : Nat} {cs : List Value} {x : DataW H × List MemPlace} (hu : P.underlying t = some (.struct fs)) (ct : P.cellsOf t = 3) (c0 : P.cellsOf t0 = 1) (c1 : P.cellsOf t1 = 1) (c2 : P.cellsOf t2 = 1)
    (m0 : ∃ g ∈ fs.toList, g.type = t0 ∧ g.offset = 0) (m1 : ∃ g ∈ fs.toList, g.type = t1 ∧ g.offset = 1) (m2 : ∃ g ∈ fs.toList, g.type = t2 ∧ g.offset = 2)
    (hx : DataW.trod enc P W 0 (fun _ => true) true fuel t cs = some x) :
    ∃ s0 s1 s2 n x0 x1 x2, cs = [s0, s1, s2] ∧ DataW.trod enc P W 0 (fun _ => true) true n t0 [s0] = some x0 ∧ DataW.trod enc P W 0 (fun _ => true) true n t1 [s1] = some x1 ∧ DataW.trod enc P W 0 (fun _ => true) true n t2 [s2] = some x2 := by
  cases fuel with
  | zero => simp [DataW.trod] at hx
  | succ n =>
    unfold DataW.trod at hx
    rw [hu] at hx
    simp only at hx
    split at hx
    case isFalse => cases hx
    rename_i hl
    obtain ⟨xs, hxs, _⟩ := Option.map_eq_some_iff.1 hx
    rw [ct] at hl
    obtain ⟨s0, s1, s2, rfl⟩ : ∃ s0 s1 s2, cs = [s0, s1, s2] := by
      match cs, hl with
      | [s0, s1, s2], _ => exact ⟨s0, s1, s2, rfl⟩
    obtain ⟨g0, hg0, e0, o0⟩ := m0
    obtain ⟨g1, hg1, e1, o1⟩ := m1
    obtain ⟨g2, hg2, e2, o2⟩ := m2
    obtain ⟨y0, hy0⟩ := mapM_at _ _ hxs g0 hg0
    obtain ⟨y1, hy1⟩ := mapM_at _ _ hxs g1 hg1
    obtain ⟨y2, hy2⟩ := mapM_at _ _ hxs g2 hg2
    rw [e0, o0, c0] at hy0
    rw [e1, o1, c1] at hy1
    rw [e2, o2, c2] at hy2
    exact ⟨s0, s1, s2, n, y0, y1, y2, rfl, hy0, hy1, hy2⟩

end


/-- The pieces of a struct. -/
theorem struct_piece {H : Type} {enc : TypeId × Value → H} {P : Program} {W : World} {t : TypeId} {fs : Array Field} {fuel : Nat} {cs : List Value} {x : DataW H × List MemPlace} (hu : P.underlying t = some (.struct fs))
    (hx : DataW.trod enc P W 0 (fun _ => true) true fuel t cs = some x) :
    cs.length = P.cellsOf t ∧ ∃ n, ∀ g ∈ fs.toList, ∃ y, DataW.trod enc P W 0 (fun _ => true) true n g.type ((cs.drop g.offset).take (P.cellsOf g.type)) = some y := by
  cases fuel with
  | zero => simp [DataW.trod] at hx
  | succ n =>
    unfold DataW.trod at hx
    rw [hu] at hx
    simp only at hx
    split at hx
    case isFalse => cases hx
    rename_i hl
    obtain ⟨xs, hxs, _⟩ := Option.map_eq_some_iff.1 hx
    exact ⟨hl, n, fun g hg => mapM_at _ _ hxs g hg⟩

end Go.Proofs.Ytpfnlldnddjbmaa

namespace Go.Proofs.Ytpfnlldnddjbmaa
set_option linter.unusedVariables false
set_option linter.unusedSimpArgs false
open Go.RowKit Go.ChangeShapes

set_option maxRecDepth 100000 in
theorem sheet_open {H : Type} {enc : TypeId × Value → H} {W : World} {fuel : Nat} {cs : List Value} {x : DataW H × List MemPlace} (hx : DataW.trod enc Try.prog W 0 (fun _ => true) true fuel 69 cs = some x) :
    ∃ (p0 p1 p2 p3 h f0 f1 f2 f3 : Int) (o : Bool) (c0 c1 w0 w1 w2 w3 w4 : Int), cs = [.int .u8 p0, .int .u8 p1, .int .u8 p2, .int .u8 p3, .int .u8 h, .int .u8 f0, .int .u8 f1, .int .u8 f2, .int .u8 f3, .bool o, .int .u8 c0, .int .u8 c1, .int .u8 w0, .int .u8 w1, .int .u8 w2, .int .u8 w3, .int .u8 w4] ∧ By p0 ∧ By p1 ∧ By p2 ∧ By p3 ∧ By h ∧ By f0 ∧ By f1 ∧ By f2 ∧ By f3 ∧ By c0 ∧ By c1 ∧ By w0 ∧ By w1 ∧ By w2 ∧ By w3 ∧ By w4 := by
  obtain ⟨hl, n, hp⟩ := struct_piece Try.underlying69 hx
  rw [show Try.prog.cellsOf 69 = 17 from by kernel_rfl] at hl
  obtain ⟨d0, d1, d2, d3, d4, d5, d6, d7, d8, d9, d10, d11, d12, d13, d14, d15, d16, rfl⟩ : ∃ d0 d1 d2 d3 d4 d5 d6 d7 d8 d9 d10 d11 d12 d13 d14 d15 d16, cs = [d0, d1, d2, d3, d4, d5, d6, d7, d8, d9, d10, d11, d12, d13, d14, d15, d16] := by
    match cs, hl with
    | [d0, d1, d2, d3, d4, d5, d6, d7, d8, d9, d10, d11, d12, d13, d14, d15, d16], _ => exact ⟨d0, d1, d2, d3, d4, d5, d6, d7, d8, d9, d10, d11, d12, d13, d14, d15, d16, rfl⟩
  obtain ⟨y0, h0⟩ := hp _ List.mem_cons_self
  obtain ⟨y1, h1⟩ := hp _ (List.mem_cons_of_mem _ List.mem_cons_self)
  obtain ⟨y2, h2⟩ := hp _ (List.mem_cons_of_mem _ (List.mem_cons_of_mem _ List.mem_cons_self))
  obtain ⟨y3, h3⟩ := hp _ (List.mem_cons_of_mem _ (List.mem_cons_of_mem _ (List.mem_cons_of_mem _ List.mem_cons_self)))
  obtain ⟨y4, h4⟩ := hp _ (List.mem_cons_of_mem _ (List.mem_cons_of_mem _ (List.mem_cons_of_mem _ (List.mem_cons_of_mem _ List.mem_cons_self))))
  obtain ⟨y5, h5⟩ := hp _ (List.mem_cons_of_mem _ (List.mem_cons_of_mem _ (List.mem_cons_of_mem _ (List.mem_cons_of_mem _ (List.mem_cons_of_mem _ List.mem_cons_self)))))
  have g0 : DataW.trod enc Try.prog W 0 (fun _ => true) true n 65 [d0, d1, d2, d3] = some y0 := by
    have e : Try.prog.cellsOf 65 = 4 := by kernel_rfl
    simpa only [List.drop_succ_cons, List.drop_zero, e, List.take_succ_cons, List.take_zero] using h0
  have g1 : DataW.trod enc Try.prog W 0 (fun _ => true) true n 5 [d4] = some y1 := by
    have e : Try.prog.cellsOf 5 = 1 := by kernel_rfl
    simpa only [List.drop_succ_cons, List.drop_zero, e, List.take_succ_cons, List.take_zero] using h1
  have g2 : DataW.trod enc Try.prog W 0 (fun _ => true) true n 65 [d5, d6, d7, d8] = some y2 := by
    have e : Try.prog.cellsOf 65 = 4 := by kernel_rfl
    simpa only [List.drop_succ_cons, List.drop_zero, e, List.take_succ_cons, List.take_zero] using h2
  have g3 : DataW.trod enc Try.prog W 0 (fun _ => true) true n 4 [d9] = some y3 := by
    have e : Try.prog.cellsOf 4 = 1 := by kernel_rfl
    simpa only [List.drop_succ_cons, List.drop_zero, e, List.take_succ_cons, List.take_zero] using h3
  have g4 : DataW.trod enc Try.prog W 0 (fun _ => true) true n 66 [d10, d11] = some y4 := by
    have e : Try.prog.cellsOf 66 = 2 := by kernel_rfl
    simpa only [List.drop_succ_cons, List.drop_zero, e, List.take_succ_cons, List.take_zero] using h4
  have g5 : DataW.trod enc Try.prog W 0 (fun _ => true) true n 67 [d12, d13, d14, d15, d16] = some y5 := by
    have e : Try.prog.cellsOf 67 = 5 := by kernel_rfl
    simpa only [List.drop_succ_cons, List.drop_zero, e, List.take_succ_cons, List.take_zero] using h5
  obtain ⟨_, hat0⟩ := allK_open (k := .u8) 5 65 (by kernel_rfl) _ _ _ g0
  obtain ⟨l0, e0, b0⟩ := ints_of _ hat0
  obtain ⟨p0, p1, p2, p3, rfl⟩ : ∃ p0 p1 p2 p3, l0 = [p0, p1, p2, p3] := by
    have hl4 : l0.length = 4 := by
      have := congrArg List.length e0
      simpa using this.symm
    match l0, hl4 with
    | [p0, p1, p2, p3], _ => exact ⟨p0, p1, p2, p3, rfl⟩
  obtain ⟨h, e1, b1⟩ := int_open Try.underlying5 g1
  obtain ⟨_, hat2⟩ := allK_open (k := .u8) 5 65 (by kernel_rfl) _ _ _ g2
  obtain ⟨l2, e2, b2⟩ := ints_of _ hat2
  obtain ⟨f0, f1, f2, f3, rfl⟩ : ∃ f0 f1 f2 f3, l2 = [f0, f1, f2, f3] := by
    have hl4 : l2.length = 4 := by
      have := congrArg List.length e2
      simpa using this.symm
    match l2, hl4 with
    | [f0, f1, f2, f3], _ => exact ⟨f0, f1, f2, f3, rfl⟩
  obtain ⟨o, e3, _⟩ := DataW.trod_bool Try.underlying4 g3
  obtain ⟨_, hat4⟩ := allK_open (k := .u8) 5 66 (by kernel_rfl) _ _ _ g4
  obtain ⟨l4, e4, b4⟩ := ints_of _ hat4
  obtain ⟨c0, c1, rfl⟩ : ∃ c0 c1, l4 = [c0, c1] := by
    have hl4 : l4.length = 2 := by
      have := congrArg List.length e4
      simpa using this.symm
    match l4, hl4 with
    | [c0, c1], _ => exact ⟨c0, c1, rfl⟩
  obtain ⟨_, hat5⟩ := allK_open (k := .u8) 5 67 (by kernel_rfl) _ _ _ g5
  obtain ⟨l5, e5, b5⟩ := ints_of _ hat5
  obtain ⟨w0, w1, w2, w3, w4, rfl⟩ : ∃ w0 w1 w2 w3 w4, l5 = [w0, w1, w2, w3, w4] := by
    have hl4 : l5.length = 5 := by
      have := congrArg List.length e5
      simpa using this.symm
    match l5, hl4 with
    | [w0, w1, w2, w3, w4], _ => exact ⟨w0, w1, w2, w3, w4, rfl⟩
  simp only [List.map_cons, List.map_nil, List.cons.injEq, and_true] at e0 e1 e2 e3 e4 e5
  obtain ⟨rfl, rfl, rfl, rfl⟩ := e0
  subst e1
  obtain ⟨rfl, rfl, rfl, rfl⟩ := e2
  subst e3
  obtain ⟨rfl, rfl⟩ := e4
  obtain ⟨rfl, rfl, rfl, rfl, rfl⟩ := e5
  exact ⟨p0, p1, p2, p3, h, f0, f1, f2, f3, o, c0, c1, w0, w1, w2, w3, w4, rfl, bounds_u8 (b0 p0 (by simp)), bounds_u8 (b0 p1 (by simp)), bounds_u8 (b0 p2 (by simp)), bounds_u8 (b0 p3 (by simp)), bounds_u8 b1, bounds_u8 (b2 f0 (by simp)), bounds_u8 (b2 f1 (by simp)), bounds_u8 (b2 f2 (by simp)), bounds_u8 (b2 f3 (by simp)), bounds_u8 (b4 c0 (by simp)), bounds_u8 (b4 c1 (by simp)), bounds_u8 (b5 w0 (by simp)), bounds_u8 (b5 w1 (by simp)), bounds_u8 (b5 w2 (by simp)), bounds_u8 (b5 w3 (by simp)), bounds_u8 (b5 w4 (by simp))⟩

end Go.Proofs.Ytpfnlldnddjbmaa

namespace Go.Proofs.Ytpfnlldnddjbmaa
set_option linter.unusedVariables false
set_option linter.unusedSimpArgs false
open Go.RowKit

theorem topOf_two (o : Bool) (f0 f1 : Int) (h0 : By f0) (h1 : By f1) : ∃ t0 t1, topOf o f0 f1 = [t0, t1] ∧ (0 ≤ t0 ∧ t0 ≤ 255) ∧ (0 ≤ t1 ∧ t1 ≤ 255) ∧ (o = true → t0 = 0 ∧ t1 = 0) ∧ (o = true ∨ (t0 = f0 ∧ t1 = f1)) := by
  cases o with
  | false => exact ⟨f0, f1, rfl, h0, h1, (fun h => by cases h), .inr ⟨rfl, rfl⟩⟩
  | true => exact ⟨0, 0, rfl, by omega, by omega, fun _ => ⟨rfl, rfl⟩, .inl rfl⟩

theorem wide_of {w0 w1 w2 w3 w4 : Int} (h0 : By w0) (h1 : By w1) (h2 : By w2) (h3 : By w3) (h4 : By w4) : Wide (w0 % 4) (w1 % 4) (w2 % 4) (w3 % 6) (w4 % 6) := by
  refine ⟨⟨?_, ?_⟩, ⟨?_, ?_⟩, ⟨?_, ?_⟩, ⟨?_, ?_⟩, ⟨?_, ?_⟩⟩ <;> omega

end Go.Proofs.Ytpfnlldnddjbmaa

namespace Go.Proofs.Ytpfnlldnddjbmaa
set_option linter.unusedVariables false
set_option linter.unusedSimpArgs false
open Go.RowKit

set_option maxRecDepth 100000 in
theorem named_body (p0 p1 p2 p3 h f0 f1 f2 f3 : Int) (o : Bool) (c0 c1 w0 w1 w2 w3 w4 : Int) (hp0 : By p0) (hp1 : By p1) (hp2 : By p2) (hp3 : By p3) (hh : By h) (hf0 : By f0) (hf1 : By f1) (hf2 : By f2) (hf3 : By f3) (hc0 : By c0) (hc1 : By c1) (hw0 : By w0) (hw1 : By w1) (hw2 : By w2) (hw3 : By w3) (hw4 : By w4) (p0' p1' p2' p3' h' f0' f1' f2' f3' : Int) (o' : Bool) (c0' c1' w0' w1' w2' w3' w4' : Int) (hp0' : By p0') (hp1' : By p1') (hp2' : By p2') (hp3' : By p3') (hh' : By h') (hf0' : By f0') (hf1' : By f1') (hf2' : By f2') (hf3' : By f3') (hc0' : By c0') (hc1' : By c1') (hw0' : By w0') (hw1' : By w1') (hw2' : By w2') (hw3' : By w3') (hw4' : By w4') (w : World) :
    Calls Try.prog 9 #[.agg #[.int .u8 p0, .int .u8 p1, .int .u8 p2, .int .u8 p3, .int .u8 h, .int .u8 f0, .int .u8 f1, .int .u8 f2, .int .u8 f3, .bool o, .int .u8 c0, .int .u8 c1, .int .u8 w0, .int .u8 w1, .int .u8 w2, .int .u8 w3, .int .u8 w4], .agg #[.int .u8 p0', .int .u8 p1', .int .u8 p2', .int .u8 p3', .int .u8 h', .int .u8 f0', .int .u8 f1', .int .u8 f2', .int .u8 f3', .bool o', .int .u8 c0', .int .u8 c1', .int .u8 w0', .int .u8 w1', .int .u8 w2', .int .u8 w3', .int .u8 w4']] w fun e w' => e = .returned (.bool true) ∧ Gr w w' := by
  obtain ⟨t0, t1, ht, ta, tb, tc, _⟩ := topOf_two o f0 f1 hf0 hf1
  obtain ⟨e0, e1, he, _⟩ := topOf_two o' f0' f1' hf0' hf1'
  obtain ⟨d0, d1, hd, da, db, dc, _⟩ := topOf_two o' f2' f3' hf2' hf3'
  have S : Sheet4 (60 + p0) (60 + p1) (60 + p2) (60 + p3) t0 t1 f2 f3 (40 + h) o := ⟨⟨by have := hp0.1; omega, by have := hp0.2; omega⟩, ⟨by have := hp1.1; omega, by have := hp1.2; omega⟩, ⟨by have := hp2.1; omega, by have := hp2.2; omega⟩, ⟨by have := hp3.1; omega, by have := hp3.2; omega⟩, ta, tb, hf2, hf3, ⟨by have := hh.1; omega, by have := hh.2; omega⟩, tc⟩
  have S' : Sheet4 (60 + p0') (60 + p1') (60 + p0') (60 + p1') d0 d1 f2' f3' (40 + h') o' := ⟨⟨by have := hp0'.1; omega, by have := hp0'.2; omega⟩, ⟨by have := hp1'.1; omega, by have := hp1'.2; omega⟩, ⟨by have := hp0'.1; omega, by have := hp0'.2; omega⟩, ⟨by have := hp1'.1; omega, by have := hp1'.2; omega⟩, da, db, hf2', hf3', ⟨by have := hh'.1; omega, by have := hh'.2; omega⟩, dc⟩
  have K : Cal4 (1500 + 20 * c0) (1500 + 20 * c0 + 2 * c1) := ⟨by have := hc0.1; omega, by have := hc1.1; omega, by have := hc0.2; have := hc1.2; omega⟩
  have K' : Cal4 (1500 + 20 * c0') (1500 + 20 * c0' + 2 * c1') := ⟨by have := hc0'.1; omega, by have := hc1'.1; omega, by have := hc0'.2; have := hc1'.2; omega⟩
  have Q := wide_of hw0' hw1' hw2' hw3' hw4'
  exact named_core _ _ _ _ _ _ _ _ _ _ _ _ _ _ _ _ _ _ _ _ _ _ _ _ _ _ _ _ _ _ _ _ _ _ (60 + p0) (60 + p1) (60 + p2) (60 + p3) t0 t1 f2 f3 (40 + h) o (60 + p0') (60 + p1') (60 + p2') (60 + p3') e0 e1 d0 d1 f2' f3' (40 + h') o' (1500 + 20 * c0) (1500 + 20 * c0 + 2 * c1) (1500 + 20 * c0') (1500 + 20 * c0' + 2 * c1') (wishOf (60 + p0') (60 + p1') f2' f3' (40 + h') o' (1500 + 20 * c0') (1500 + 20 * c0' + 2 * c1') (w0' % 4) (w1' % 4) (w2' % 4) (w3' % 6) (w4' % 6))
    (Lib.hid S) (Lib.hid K) (Lib.hid (wishOf_ok Q K'.2.1))
    (Lib.hid (fun v => (sheetBlank_any p0 p1 p2 p3 h f0 f1 f2 f3 o c0 c1 w0 w1 w2 w3 w4 hp0 hp1 hp2 hp3 hh hf0 hf1 hf2 hf3 v).mono (fun e w2 H => by rw [ht] at H; exact H.new)))
    (Lib.hid (fun v => sheetCal_any p0 p1 p2 p3 h f0 f1 f2 f3 o c0 c1 w0 w1 w2 w3 w4 hc0 hc1 v))
    (Lib.hid (fun v => (sheetBlank_any p0' p1' p2' p3' h' f0' f1' f2' f3' o' c0' c1' w0' w1' w2' w3' w4' hp0' hp1' hp2' hp3' hh' hf0' hf1' hf2' hf3' v).mono (fun e w2 H => by rw [he] at H; exact H.new)))
    (Lib.hid (fun pa ta ba pc tc bc v h1 h2 h3 => twin_at (60 + p0') (60 + p1') (60 + p2') (60 + p3') e0 e1 f2' f3' d0 d1 (40 + h') o' hd pa ta ba pc tc bc v h1 h2 h3))
    (Lib.hid (fun v => sheetCal_any p0' p1' p2' p3' h' f0' f1' f2' f3' o' c0' c1' w0' w1' w2' w3' w4' hc0' hc1' v))
    (Lib.hid (fun pa ta ba pc tc bc v h1 h2 h3 => wished_any p0' p1' p2' p3' h' f0' f1' f2' f3' o' c0' c1' w0' w1' w2' w3' w4' hw0' hw1' hw2' hw3' hw4' (60 + p0') (60 + p1') (60 + p0') (60 + p1') d0 d1 f2' f3' (40 + h') o' (1500 + 20 * c0') (1500 + 20 * c0' + 2 * c1') (Lib.hid S') (Lib.hid K') pa ta ba pc tc bc v h1 h2 h3)) w

end Go.Proofs.Ytpfnlldnddjbmaa
