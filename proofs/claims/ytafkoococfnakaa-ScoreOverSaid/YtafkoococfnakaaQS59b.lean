/- ScoreOver's body. (Made by gen_s57.py.) A law's end: it returned true and the world only grew. And: what an argument is that is made of integers of one kind. What an argument is that is a slice of small arrays of integers; a struct of three slices; the pieces of a struct. ScoreOver for sheets of bytes; a sheet that comes in. (Made by gen_s58.py.) -/
import Derived.Test.YtafkoococfnakaaQS59a
import Derived.ProofKit
import Derived.OpenShut
import Derived.Test.YtafkoococfnakaaQS32a
import Derived.ChangeSame
import Derived.Carry
namespace Go.Proofs.Ytafkoococfnakaa
set_option linter.unusedVariables false
set_option linter.unusedSimpArgs false
open Go.RowKit

theorem agg_new {v w : World} {p : Bool} {a b c : Option Addr} {l m n i j k : Nat} {q s u : Int} (ha : ∀ ad, a = some ad → v.heap.size ≤ ad.block ∧ ad.block < w.heap.size) (hb : ∀ ad, b = some ad → v.heap.size ≤ ad.block ∧ ad.block < w.heap.size) (hc : ∀ ad, c = some ad → v.heap.size ≤ ad.block ∧ ad.block < w.heap.size) : ∀ r, hasB (.agg #[.int .i64 q, .slice a l i, .int .i64 s, .slice b m j, .slice c n k, .int .i64 u, .bool p]) r → v.heap.size ≤ r ∧ r < w.heap.size := by
 have one : ∀ (a : Option Addr) (l i r : Nat), (∀ ad, a = some ad → v.heap.size ≤ ad.block ∧ ad.block < w.heap.size) → blkOf (.slice a l i) = some r → v.heap.size ≤ r ∧ r < w.heap.size := by
  intro a l i r h e
  cases a with
  | none => simp [blkOf] at e
  | some ad =>
   simp [blkOf] at e
   subst e
   exact h ad rfl
 rintro r (h | ⟨cs, h, e, he, hh⟩)
 ·simp [blkOf] at h
 ·cases h
  simp only [List.mem_toArray, List.mem_cons, List.not_mem_nil, or_false] at he
  rcases he with rfl | rfl | rfl | rfl | rfl | rfl | rfl
  ·simp [blkOf] at hh
  ·exact one _ _ _ _ ha hh
  ·simp [blkOf] at hh
  ·exact one _ _ _ _ hb hh
  ·exact one _ _ _ _ hc hh
  ·simp [blkOf] at hh
  ·simp [blkOf] at hh

/-- What a sheet's blank and calipers are. -/
def Sheet4 (p0 p1 p2 p3 t0 t1 s0 s1 hei : Int) (o : Bool) : Prop :=
 (60 ≤ p0 ∧ p0 ≤ 315) ∧ (60 ≤ p1 ∧ p1 ≤ 315) ∧ (60 ≤ p2 ∧ p2 ≤ 315) ∧ (60 ≤ p3 ∧ p3 ≤ 315) ∧ (0 ≤ t0 ∧ t0 ≤ 255) ∧ (0 ≤ t1 ∧ t1 ≤ 255) ∧ (0 ≤ s0 ∧ s0 ≤ 255) ∧ (0 ≤ s1 ∧ s1 ≤ 255) ∧ (40 ≤ hei ∧ hei ≤ 295) ∧ (o = true → t0 = 0 ∧ t1 = 0)

theorem Sheet4.more {p0 p1 p2 p3 t0 t1 s0 s1 hei : Int} {o : Bool} (h : Sheet4 p0 p1 p2 p3 t0 t1 s0 s1 hei o) {m : Int} (m0 : 0 ≤ m) (m1 : m ≤ 39) : Blank4 (p0 + m) (p1 + m) (p2 + m) (p3 + m) t0 t1 s0 s1 hei o := by
 obtain ⟨h0, h1, h2, h3, h4, h5, h6, h7, h8, h9⟩ := h
 refine ⟨?_, ?_, ?_, ?_, ?_, ?_, ?_, ?_, ?_, h9⟩ <;> omega

theorem Sheet4.ok {p0 p1 p2 p3 t0 t1 s0 s1 hei : Int} {o : Bool} (h : Sheet4 p0 p1 p2 p3 t0 t1 s0 s1 hei o) : Blank4 p0 p1 p2 p3 t0 t1 s0 s1 hei o := by
 have := h.more (m := 0) (by omega) (by omega)
 simpa using this

def Cal4 (cl ch : Int) : Prop := 1500 ≤ cl ∧ cl ≤ ch ∧ ch ≤ 7110

theorem Cal4.less {cl ch : Int} (h : Cal4 cl ch) {m : Int} (m0 : 0 ≤ m) (m1 : m ≤ 99) : Cal2 (cl - m) (ch - m) := by
 obtain ⟨h0, h1, h2⟩ := h
 exact ⟨by omega, by omega, by omega⟩

theorem Cal4.ok {cl ch : Int} (h : Cal4 cl ch) : Cal2 cl ch := by
 obtain ⟨h0, h1, h2⟩ := h
 exact ⟨by omega, by omega, by omega⟩

set_option maxRecDepth 100000 in
set_option maxHeartbeats 8000000 in
theorem over_core (x0 x1 x2 x3 x4 x5 x6 x7 x8 x9 x10 x11 x12 x13 x14 x15 x16 y0 y1 y2 y3 y4 y5 y6 y7 y8 y9 y10 y11 y12 y13 y14 y15 y16 : Value) (v0 v1 v2 v3 : Int) (hv0 : By v0) (hv1 : By v1) (hv2 : By v2) (hv3 : By v3) (a0 a1 a2 a3 t0 t1 s0 s1 hei : Int) (o : Bool) (q0 q1 q2 q3 u0 u1 z0 z1 hei' : Int) (o' : Bool) (cl ch cl' ch' : Int)
  (HS : Hid (Sheet4 a0 a1 a2 a3 t0 t1 s0 s1 hei o)) (HS' : Hid (Sheet4 q0 q1 q2 q3 u0 u1 z0 z1 hei' o')) (HK : Hid (Cal4 cl ch)) (HK' : Hid (Cal4 cl' ch'))
  (SB : Hid (∀ v, Calls Try.prog 39 #[.agg #[x0, x1, x2, x3, x4, x5, x6, x7, x8, x9, x10, x11, x12, x13, x14, x15, x16]] v (BlankNew a0 a1 a2 a3 t0 t1 s0 s1 hei o v))) (SB' : Hid (∀ v, Calls Try.prog 39 #[.agg #[y0, y1, y2, y3, y4, y5, y6, y7, y8, y9, y10, y11, y12, y13, y14, y15, y16]] v (BlankNew q0 q1 q2 q3 u0 u1 z0 z1 hei' o' v)))
  (SC : Hid (∀ v, Calls Try.prog 40 #[.agg #[x0, x1, x2, x3, x4, x5, x6, x7, x8, x9, x10, x11, x12, x13, x14, x15, x16]] v fun e w' => e = .returned (.agg #[.int .i64 cl, .int .i64 ch]) ∧ Gr v w')) (SC' : Hid (∀ v, Calls Try.prog 40 #[.agg #[y0, y1, y2, y3, y4, y5, y6, y7, y8, y9, y10, y11, y12, y13, y14, y15, y16]] v fun e w' => e = .returned (.agg #[.int .i64 cl', .int .i64 ch']) ∧ Gr v w')) (w : World) :
  Calls Try.prog 12 #[.agg #[x0, x1, x2, x3, x4, x5, x6, x7, x8, x9, x10, x11, x12, x13, x14, x15, x16], .agg #[y0, y1, y2, y3, y4, y5, y6, y7, y8, y9, y10, y11, y12, y13, y14, y15, y16], .agg #[.int .u8 v0, .int .u8 v1, .int .u8 v2, .int .u8 v3]] w fun e w' => e = .returned (.bool true) ∧ Gr w w' := by
 have gg := ((Gr.al w (.cells #[x0, x1, x2, x3, x4, x5, x6, x7, x8, x9, x10, x11, x12, x13, x14, x15, x16] 69)).tr (Gr.al _ (.cells #[y0, y1, y2, y3, y4, y5, y6, y7, y8, y9, y10, y11, y12, y13, y14, y15, y16] 69))).tr (Gr.al _ (.cells #[.int .u8 v0, .int .u8 v1, .int .u8 v2, .int .u8 v3] 65))
 have h1 := (Box.new w [x0, x1, x2, x3, x4, x5, x6, x7, x8, x9, x10, x11, x12, x13, x14, x15, x16] 69 w.heap.size rfl).keep ((Gr.al _ (.cells #[y0, y1, y2, y3, y4, y5, y6, y7, y8, y9, y10, y11, y12, y13, y14, y15, y16] 69)).tr (Gr.al _ (.cells #[.int .u8 v0, .int .u8 v1, .int .u8 v2, .int .u8 v3] 65)))
 have h2 := (Box.new (w.alloc (.cells #[x0, x1, x2, x3, x4, x5, x6, x7, x8, x9, x10, x11, x12, x13, x14, x15, x16] 69)) [y0, y1, y2, y3, y4, y5, y6, y7, y8, y9, y10, y11, y12, y13, y14, y15, y16] 69 (w.heap.size + 1) (by simp)).keep (Gr.al _ (.cells #[.int .u8 v0, .int .u8 v1, .int .u8 v2, .int .u8 v3] 65))
 have h3 := Box.new ((w.alloc (.cells #[x0, x1, x2, x3, x4, x5, x6, x7, x8, x9, x10, x11, x12, x13, x14, x15, x16] 69)).alloc (.cells #[y0, y1, y2, y3, y4, y5, y6, y7, y8, y9, y10, y11, y12, y13, y14, y15, y16] 69)) [.int .u8 v0, .int .u8 v1, .int .u8 v2, .int .u8 v3] 65 (w.heap.size + 1 + 1) (by simp)
 go_enter Try.func12, Try.ntmps12
 go_upto_region 1 with fail
 refine wp_abs (fun U => Gr w U ∧ Box U w.heap.size [x0, x1, x2, x3, x4, x5, x6, x7, x8, x9, x10, x11, x12, x13, x14, x15, x16] ∧ Box U (w.heap.size + 1) [y0, y1, y2, y3, y4, y5, y6, y7, y8, y9, y10, y11, y12, y13, y14, y15, y16] ∧ Box U (w.heap.size + 1 + 1) [.int .u8 v0, .int .u8 v1, .int .u8 v2, .int .u8 v3]) ⟨gg, h1, h2, h3⟩ ?_
 clear gg h1 h2 h3
 rintro U ⟨gU, h1, h2, h3⟩
 refine wp_region_apart 12 [(1, 0), (3, 2), (5, 4), (7, 6)] [1, 3, 8, 9, 10, 11] (fun x => ⟨#[.agg #[x0, x1, x2, x3, x4, x5, x6, x7, x8, x9, x10, x11, x12, x13, x14, x15, x16], .agg #[y0, y1, y2, y3, y4, y5, y6, y7, y8, y9, y10, y11, y12, y13, y14, y15, y16], .agg #[.int .u8 v0, .int .u8 v1, .int .u8 v2, .int .u8 v3], .pointer (some ⟨w.heap.size, 0, none⟩), .pointer (some ⟨(w.heap.size + 1), 0, none⟩), .pointer (some ⟨(w.heap.size + 1 + 1), 0, none⟩), .bool false, x 8, x 9, x 10, x 11, undef, undef, undef, undef, undef, undef, undef, undef, undef, undef, undef, undef, undef, undef, undef, undef, undef, undef, undef, undef, undef, undef, undef, undef, x 0, x 1, x 2, x 3, x 4, x 5, x 6, x 7, undef, undef, undef, undef, undef, undef, undef, undef, undef, undef, undef, undef, undef, undef, undef, undef, undef, undef, undef, undef, undef, undef, undef, undef, undef, undef, undef, undef, undef, undef, undef, undef, undef, undef, undef, undef, undef, undef, undef, undef, undef, undef, undef, undef, undef, undef, undef, undef, undef, undef, undef, undef, undef, undef, undef, undef, undef, undef, undef, undef, undef, undef, undef, undef, undef, undef, undef, undef, undef, undef, undef, undef, undef, undef, undef, undef, undef, undef, undef, undef, undef, undef, undef, undef, undef, undef, undef, undef, undef, undef, undef, undef, undef, undef, undef, undef, undef, undef, undef, undef, undef, undef, undef, undef, undef, undef, undef, undef, undef, undef, undef, undef, undef, undef, undef, undef, undef, undef, undef, undef, undef, undef, undef, undef, undef, undef, undef, undef, undef, undef, undef, undef, undef, undef, undef, undef, undef, undef, undef, undef, undef, undef, undef, undef, undef, undef, undef, undef, undef, undef, undef, undef, undef, undef, undef, undef, undef, undef, undef, undef, undef, undef, undef, undef, undef, undef, undef, undef, undef, undef, undef, undef, undef, undef, undef, undef, undef, undef, undef, undef, undef, undef, undef, undef, undef, undef, undef, undef, undef, undef, undef, undef, undef, undef, undef, undef, undef, undef, undef, undef, undef, undef, undef, undef, undef, undef, undef, undef, undef, undef, undef, undef, undef, undef, undef, undef, undef, undef, undef, undef, undef, undef, undef, undef, undef, undef, undef, undef, undef, undef, undef, undef, undef, undef, undef, undef, undef, undef, undef, undef, undef, undef, undef, undef, undef, undef, undef, undef, undef, undef, undef, undef, undef, undef, undef, undef, undef, undef, undef, undef, undef, undef, undef, undef, undef, undef, undef, undef, undef, undef, undef, undef, undef, undef, undef, undef, undef, undef, undef, undef, undef, undef, undef, undef, undef, undef, undef, undef, undef, undef, undef], []⟩) (fun _ => undef) [fun _ x => x = .agg #[x0, x1, x2, x3, x4, x5, x6, x7, x8, x9, x10, x11, x12, x13, x14, x15, x16], fun v x => ∃ ka3 kc3 ka7 kc7 ka11 kc11, x = .agg #[.int .i64 30, .slice ka3 4 kc3, .int .i64 hei, .slice ka7 2 kc7, .slice ka11 2 kc11, .int .i64 9, .bool o] ∧ (IRow v ka3 [a0, a1, a2, a3] ∧ IRow v ka7 [t0, t1] ∧ IRow v ka11 [s0, s1]) ∧ ∀ b, hasB x b → U.heap.size ≤ b ∧ b < v.heap.size, fun _ x => x = .agg #[y0, y1, y2, y3, y4, y5, y6, y7, y8, y9, y10, y11, y12, y13, y14, y15, y16], fun v x => ∃ ma3 mc3 ma7 mc7 ma11 mc11, x = .agg #[.int .i64 30, .slice ma3 4 mc3, .int .i64 hei', .slice ma7 2 mc7, .slice ma11 2 mc11, .int .i64 9, .bool o'] ∧ (IRow v ma3 [q0, q1, q2, q3] ∧ IRow v ma7 [u0, u1] ∧ IRow v ma11 [z0, z1]) ∧ ∀ b, hasB x b → U.heap.size ≤ b ∧ b < v.heap.size, fun _ x => x = .agg #[x0, x1, x2, x3, x4, x5, x6, x7, x8, x9, x10, x11, x12, x13, x14, x15, x16], fun _ x => x = .agg #[.int .i64 cl, .int .i64 ch], fun _ x => x = .agg #[y0, y1, y2, y3, y4, y5, y6, y7, y8, y9, y10, y11, y12, y13, y14, y15, y16], fun _ x => x = .agg #[.int .i64 cl', .int .i64 ch'], fun v x => ∃ b, x = .pointer (some ⟨b, 0, none⟩) ∧ U.heap.size ≤ b ∧ Own v b [.int .i64 0, .slice none 0 0, .int .i64 0, .slice none 0 0, .slice none 0 0, .int .i64 0, .bool false], fun v x => ∃ b, x = .pointer (some ⟨b, 0, none⟩) ∧ U.heap.size ≤ b ∧ Own v b [.int .i64 0, .slice none 0 0, .int .i64 0, .slice none 0 0, .slice none 0 0, .int .i64 0, .bool false], fun v x => ∃ b, x = .pointer (some ⟨b, 0, none⟩) ∧ U.heap.size ≤ b ∧ Own v b [.int .i64 0, .int .i64 0], fun v x => ∃ b, x = .pointer (some ⟨b, 0, none⟩) ∧ U.heap.size ≤ b ∧ Own v b [.int .i64 0, .int .i64 0]] (by rfl) (by kernel_rfl) (by kernel_rfl) (by kernel_rfl) (stays_cons (Stays.eq _) (stays_cons ((show Stays (fun v x => ∃ ka3 kc3 ka7 kc7 ka11 kc11, x = .agg #[.int .i64 30, .slice ka3 4 kc3, .int .i64 hei, .slice ka7 2 kc7, .slice ka11 2 kc11, .int .i64 9, .bool o] ∧ (IRow v ka3 [a0, a1, a2, a3] ∧ IRow v ka7 [t0, t1] ∧ IRow v ka11 [s0, s1]) ∧ ∀ b, hasB x b → U.heap.size ≤ b ∧ b < v.heap.size) from fun v v' x g ⟨a, b, c, d, e, f, h, ⟨r1, r2, r3⟩, m⟩ => ⟨a, b, c, d, e, f, h, ⟨r1.grow g, r2.grow g, r3.grow g⟩, fun b hb => ⟨(m b hb).1, Nat.lt_of_lt_of_le (m b hb).2 g.size⟩⟩)) (stays_cons (Stays.eq _) (stays_cons ((show Stays (fun v x => ∃ ma3 mc3 ma7 mc7 ma11 mc11, x = .agg #[.int .i64 30, .slice ma3 4 mc3, .int .i64 hei', .slice ma7 2 mc7, .slice ma11 2 mc11, .int .i64 9, .bool o'] ∧ (IRow v ma3 [q0, q1, q2, q3] ∧ IRow v ma7 [u0, u1] ∧ IRow v ma11 [z0, z1]) ∧ ∀ b, hasB x b → U.heap.size ≤ b ∧ b < v.heap.size) from fun v v' x g ⟨a, b, c, d, e, f, h, ⟨r1, r2, r3⟩, m⟩ => ⟨a, b, c, d, e, f, h, ⟨r1.grow g, r2.grow g, r3.grow g⟩, fun b hb => ⟨(m b hb).1, Nat.lt_of_lt_of_le (m b hb).2 g.size⟩⟩)) (stays_cons (Stays.eq _) (stays_cons (Stays.eq _) (stays_cons (Stays.eq _) (stays_cons (Stays.eq _) (stays_cons ((show Stays (fun v x => ∃ b, x = .pointer (some ⟨b, 0, none⟩) ∧ U.heap.size ≤ b ∧ Own v b [.int .i64 0, .slice none 0 0, .int .i64 0, .slice none 0 0, .slice none 0 0, .int .i64 0, .bool false]) from fun v v' x g ⟨b, h, l, o⟩ => ⟨b, h, l, o.keep g⟩)) (stays_cons ((show Stays (fun v x => ∃ b, x = .pointer (some ⟨b, 0, none⟩) ∧ U.heap.size ≤ b ∧ Own v b [.int .i64 0, .slice none 0 0, .int .i64 0, .slice none 0 0, .slice none 0 0, .int .i64 0, .bool false]) from fun v v' x g ⟨b, h, l, o⟩ => ⟨b, h, l, o.keep g⟩)) (stays_cons ((show Stays (fun v x => ∃ b, x = .pointer (some ⟨b, 0, none⟩) ∧ U.heap.size ≤ b ∧ Own v b [.int .i64 0, .int .i64 0]) from fun v v' x g ⟨b, h, l, o⟩ => ⟨b, h, l, o.keep g⟩)) (stays_cons ((show Stays (fun v x => ∃ b, x = .pointer (some ⟨b, 0, none⟩) ∧ U.heap.size ≤ b ∧ Own v b [.int .i64 0, .int .i64 0]) from fun v v' x g ⟨b, h, l, o⟩ => ⟨b, h, l, o.keep g⟩)) stays_nil)))))))))))) ?step1 ?fin1
 case step1 => as_aux_lemma =>
  rintro i hi x v gv hd K hK
  have hi8 : i = 0 ∨ i = 1 ∨ i = 2 ∨ i = 3 ∨ i = 4 ∨ i = 5 ∨ i = 6 ∨ i = 7 ∨ i = 8 ∨ i = 9 ∨ i = 10 ∨ i = 11 := by omega
  rcases hi8 with rfl | rfl | rfl | rfl | rfl | rfl | rfl | rfl | rfl | rfl | rfl | rfl
  ·dsimp only [upd, Nat.reduceBEq, cond_true, cond_false]
   refine wpOp_step rfl (fun K' hK' => ?_)
   rw [if_pos (by rfl)]
   refine wp_load_mid 69 _ rfl w.heap.size 0 (by rfl) [x0, x1, x2, x3, x4, x5, x6, x7, x8, x9, x10, x11, x12, x13, x14, x15, x16] _ (fun j u hu => by rw [Nat.zero_add]; exact (h1.keep gv).2 j u hu) Try.underlying69 rfl (by kernel_rfl) ?_
   exact hK' _ _ (hK _ _ (Below.refl _ _) (at_of rfl (rfl)) (fun h => absurd h (by simp)))
  ·obtain ⟨x, rfl⟩ := upd_of (show x 0 = .agg #[x0, x1, x2, x3, x4, x5, x6, x7, x8, x9, x10, x11, x12, x13, x14, x15, x16] from hd 0 _ (by simp) rfl)
   dsimp only [upd, Nat.reduceBEq, cond_true, cond_false]
   refine wpOp_step rfl (fun K' hK' => ?_)
   go_simp
   refine (SB.out v).mono ?_
   rintro e v' ⟨w3, b3, w7, b7, w11, b11, rfl, hg, r1, k3, k7, k11⟩
   exact hK' _ _ (hK _ _ hg (at_of rfl (⟨_, _, _, _, _, _, rfl, r1, fun b hb => by have h9 := agg_new k3 k7 k11 b hb; have := gv.size; omega⟩)) (fun _ b hb => agg_new k3 k7 k11 b hb))
  ·dsimp only [upd, Nat.reduceBEq, cond_true, cond_false]
   refine wpOp_step rfl (fun K' hK' => ?_)
   rw [if_pos (by rfl)]
   refine wp_load_mid 69 _ rfl (w.heap.size + 1) 0 (by rfl) [y0, y1, y2, y3, y4, y5, y6, y7, y8, y9, y10, y11, y12, y13, y14, y15, y16] _ (fun j u hu => by rw [Nat.zero_add]; exact (h2.keep gv).2 j u hu) Try.underlying69 rfl (by kernel_rfl) ?_
   exact hK' _ _ (hK _ _ (Below.refl _ _) (at_of rfl (rfl)) (fun h => absurd h (by simp)))
  ·obtain ⟨x, rfl⟩ := upd_of (show x 2 = .agg #[y0, y1, y2, y3, y4, y5, y6, y7, y8, y9, y10, y11, y12, y13, y14, y15, y16] from hd 2 _ (by simp) rfl)
   dsimp only [upd, Nat.reduceBEq, cond_true, cond_false]
   refine wpOp_step rfl (fun K' hK' => ?_)
   go_simp
   refine (SB'.out v).mono ?_
   rintro e v' ⟨w3, b3, w7, b7, w11, b11, rfl, hg, r1, k3, k7, k11⟩
   exact hK' _ _ (hK _ _ hg (at_of rfl (⟨_, _, _, _, _, _, rfl, r1, fun b hb => by have h9 := agg_new k3 k7 k11 b hb; have := gv.size; omega⟩)) (fun _ b hb => agg_new k3 k7 k11 b hb))
  ·dsimp only [upd, Nat.reduceBEq, cond_true, cond_false]
   refine wpOp_step rfl (fun K' hK' => ?_)
   rw [if_pos (by rfl)]
   refine wp_load_mid 69 _ rfl w.heap.size 0 (by rfl) [x0, x1, x2, x3, x4, x5, x6, x7, x8, x9, x10, x11, x12, x13, x14, x15, x16] _ (fun j u hu => by rw [Nat.zero_add]; exact (h1.keep gv).2 j u hu) Try.underlying69 rfl (by kernel_rfl) ?_
   exact hK' _ _ (hK _ _ (Below.refl _ _) (at_of rfl (rfl)) (fun h => absurd h (by simp)))
  ·obtain ⟨x, rfl⟩ := upd_of (show x 4 = .agg #[x0, x1, x2, x3, x4, x5, x6, x7, x8, x9, x10, x11, x12, x13, x14, x15, x16] from hd 4 _ (by simp) rfl)
   dsimp only [upd, Nat.reduceBEq, cond_true, cond_false]
   refine wpOp_step rfl (fun K' hK' => ?_)
   go_simp
   refine (SC.out v).mono ?_
   rintro e v' ⟨rfl, hg⟩
   exact hK' _ _ (hK _ _ hg (at_of rfl (rfl)) (fun h => absurd h (by simp)))
  ·dsimp only [upd, Nat.reduceBEq, cond_true, cond_false]
   refine wpOp_step rfl (fun K' hK' => ?_)
   rw [if_pos (by rfl)]
   refine wp_load_mid 69 _ rfl (w.heap.size + 1) 0 (by rfl) [y0, y1, y2, y3, y4, y5, y6, y7, y8, y9, y10, y11, y12, y13, y14, y15, y16] _ (fun j u hu => by rw [Nat.zero_add]; exact (h2.keep gv).2 j u hu) Try.underlying69 rfl (by kernel_rfl) ?_
   exact hK' _ _ (hK _ _ (Below.refl _ _) (at_of rfl (rfl)) (fun h => absurd h (by simp)))
  ·obtain ⟨x, rfl⟩ := upd_of (show x 6 = .agg #[y0, y1, y2, y3, y4, y5, y6, y7, y8, y9, y10, y11, y12, y13, y14, y15, y16] from hd 6 _ (by simp) rfl)
   dsimp only [upd, Nat.reduceBEq, cond_true, cond_false]
   refine wpOp_step rfl (fun K' hK' => ?_)
   go_simp
   refine (SC'.out v).mono ?_
   rintro e v' ⟨rfl, hg⟩
   exact hK' _ _ (hK _ _ hg (at_of rfl (rfl)) (fun h => absurd h (by simp)))
  ·dsimp only [upd, Nat.reduceBEq, cond_true, cond_false]
   refine wpOp_step rfl (fun K' hK' => ?_)
   go_simp
   have hg := Gr.al v (.cells #[.int .i64 0, .slice none 0 0, .int .i64 0, .slice none 0 0, .slice none 0 0, .int .i64 0, .bool false] 24)
   exact hK' _ _ (hK _ _ hg (at_of rfl (⟨_, rfl, gv.size, Own.new v [.int .i64 0, .slice none 0 0, .int .i64 0, .slice none 0 0, .slice none 0 0, .int .i64 0, .bool false] 24 v.heap.size rfl⟩)) (fun _ b hb => by simp [hasB, blkOf] at hb; subst hb; simp))
  ·dsimp only [upd, Nat.reduceBEq, cond_true, cond_false]
   refine wpOp_step rfl (fun K' hK' => ?_)
   go_simp
   have hg := Gr.al v (.cells #[.int .i64 0, .slice none 0 0, .int .i64 0, .slice none 0 0, .slice none 0 0, .int .i64 0, .bool false] 24)
   exact hK' _ _ (hK _ _ hg (at_of rfl (⟨_, rfl, gv.size, Own.new v [.int .i64 0, .slice none 0 0, .int .i64 0, .slice none 0 0, .slice none 0 0, .int .i64 0, .bool false] 24 v.heap.size rfl⟩)) (fun _ b hb => by simp [hasB, blkOf] at hb; subst hb; simp))
  ·dsimp only [upd, Nat.reduceBEq, cond_true, cond_false]
   refine wpOp_step rfl (fun K' hK' => ?_)
   go_simp
   have hg := Gr.al v (.cells #[.int .i64 0, .int .i64 0] 37)
   exact hK' _ _ (hK _ _ hg (at_of rfl (⟨_, rfl, gv.size, Own.new v [.int .i64 0, .int .i64 0] 37 v.heap.size rfl⟩)) (fun _ b hb => by simp [hasB, blkOf] at hb; subst hb; simp))
  ·dsimp only [upd, Nat.reduceBEq, cond_true, cond_false]
   refine wpOp_step rfl (fun K' hK' => ?_)
   go_simp
   have hg := Gr.al v (.cells #[.int .i64 0, .int .i64 0] 37)
   exact hK' _ _ (hK _ _ hg (at_of rfl (⟨_, rfl, gv.size, Own.new v [.int .i64 0, .int .i64 0] 37 v.heap.size rfl⟩)) (fun _ b hb => by simp [hasB, blkOf] at hb; subst hb; simp))
 case fin1 =>
  rintro x v gv hd hap
  obtain ⟨ka3, kc3, ka7, kc7, ka11, kc11, e1, r1, m1⟩ := hd 1 _ (by omega) rfl
  obtain ⟨x, rfl⟩ := upd_of (show x 1 = .agg #[.int .i64 30, .slice ka3 4 kc3, .int .i64 hei, .slice ka7 2 kc7, .slice ka11 2 kc11, .int .i64 9, .bool o] from e1)
  obtain ⟨ma3, mc3, ma7, mc7, ma11, mc11, e3, r3, m3⟩ := hd 3 _ (by omega) rfl
  obtain ⟨x, rfl⟩ := upd_of (show x 3 = .agg #[.int .i64 30, .slice ma3 4 mc3, .int .i64 hei', .slice ma7 2 mc7, .slice ma11 2 mc11, .int .i64 9, .bool o'] from e3)
  obtain ⟨x, rfl⟩ := upd_of (show x 5 = .agg #[.int .i64 cl, .int .i64 ch] from hd 5 _ (by omega) rfl)
  obtain ⟨x, rfl⟩ := upd_of (show x 7 = .agg #[.int .i64 cl', .int .i64 ch'] from hd 7 _ (by omega) rfl)
  obtain ⟨v8, e8, l8, o8⟩ := hd 8 _ (by omega) rfl
  obtain ⟨x, rfl⟩ := upd_of (show x 8 = .pointer (some ⟨v8, 0, none⟩) from e8)
  obtain ⟨v9, e9, l9, o9⟩ := hd 9 _ (by omega) rfl
  obtain ⟨x, rfl⟩ := upd_of (show x 9 = .pointer (some ⟨v9, 0, none⟩) from e9)
  obtain ⟨v10, e10, l10, o10⟩ := hd 10 _ (by omega) rfl
  obtain ⟨x, rfl⟩ := upd_of (show x 10 = .pointer (some ⟨v10, 0, none⟩) from e10)
  obtain ⟨v11, e11, l11, o11⟩ := hd 11 _ (by omega) rfl
  obtain ⟨x, rfl⟩ := upd_of (show x 11 = .pointer (some ⟨v11, 0, none⟩) from e11)
  clear hd
  show wpList Try.prog _ _ (List.drop 12 _) (⟨#[_, _, _, _, _, _, _, .pointer (some ⟨v8, 0, none⟩), .pointer (some ⟨v9, 0, none⟩), .pointer (some ⟨v10, 0, none⟩), .pointer (some ⟨v11, 0, none⟩), _, _, _, _, _, _, _, _, _, _, _, _, _, _, _, _, _, _, _, _, _, _, _, _, x 0, .agg #[.int .i64 30, .slice ka3 4 kc3, .int .i64 hei, .slice ka7 2 kc7, .slice ka11 2 kc11, .int .i64 9, .bool o], x 2, .agg #[.int .i64 30, .slice ma3 4 mc3, .int .i64 hei', .slice ma7 2 mc7, .slice ma11 2 mc11, .int .i64 9, .bool o'], x 4, .agg #[.int .i64 cl, .int .i64 ch], x 6, .agg #[.int .i64 cl', .int .i64 ch'], _, _, _, _, _, _, _, _, _, _, _, _, _, _, _, _, _, _, _, _, _, _, _, _, _, _, _, _, _, _, _, _, _, _, _, _, _, _, _, _, _, _, _, _, _, _, _, _, _, _, _, _, _, _, _, _, _, _, _, _, _, _, _, _, _, _, _, _, _, _, _, _, _, _, _, _, _, _, _, _, _, _, _, _, _, _, _, _, _, _, _, _, _, _, _, _, _, _, _, _, _, _, _, _, _, _, _, _, _, _, _, _, _, _, _, _, _, _, _, _, _, _, _, _, _, _, _, _, _, _, _, _, _, _, _, _, _, _, _, _, _, _, _, _, _, _, _, _, _, _, _, _, _, _, _, _, _, _, _, _, _, _, _, _, _, _, _, _, _, _, _, _, _, _, _, _, _, _, _, _, _, _, _, _, _, _, _, _, _, _, _, _, _, _, _, _, _, _, _, _, _, _, _, _, _, _, _, _, _, _, _, _, _, _, _, _, _, _, _, _, _, _, _, _, _, _, _, _, _, _, _, _, _, _, _, _, _, _, _, _, _, _, _, _, _, _, _, _, _, _, _, _, _, _, _, _, _, _, _, _, _, _, _, _, _, _, _, _, _, _, _, _, _, _, _, _, _, _, _, _, _, _, _, _, _, _, _, _, _, _, _], []⟩ : Act) v
  simp only [List.drop_succ_cons, List.drop_zero]
  have d8_9 : v8 ≠ v9 := fun e => hap 8 9 (by simp) (by simp) (by simp) (by omega) (by omega) v8 (by rw [e8]; simp [hasB, blkOf]) (by rw [e9, e]; simp [hasB, blkOf])
  have d8_10 : v8 ≠ v10 := fun e => hap 8 10 (by simp) (by simp) (by simp) (by omega) (by omega) v8 (by rw [e8]; simp [hasB, blkOf]) (by rw [e10, e]; simp [hasB, blkOf])
  have d8_11 : v8 ≠ v11 := fun e => hap 8 11 (by simp) (by simp) (by simp) (by omega) (by omega) v8 (by rw [e8]; simp [hasB, blkOf]) (by rw [e11, e]; simp [hasB, blkOf])
  have d9_10 : v9 ≠ v10 := fun e => hap 9 10 (by simp) (by simp) (by simp) (by omega) (by omega) v9 (by rw [e9]; simp [hasB, blkOf]) (by rw [e10, e]; simp [hasB, blkOf])
  have d9_11 : v9 ≠ v11 := fun e => hap 9 11 (by simp) (by simp) (by simp) (by omega) (by omega) v9 (by rw [e9]; simp [hasB, blkOf]) (by rw [e11, e]; simp [hasB, blkOf])
  have d10_11 : v10 ≠ v11 := fun e => hap 10 11 (by simp) (by simp) (by simp) (by omega) (by omega) v10 (by rw [e10]; simp [hasB, blkOf]) (by rw [e11, e]; simp [hasB, blkOf])
  have NA := Lib.hid (show ∀ r, hasB (.agg #[.int .i64 30, .slice ka3 4 kc3, .int .i64 hei, .slice ka7 2 kc7, .slice ka11 2 kc11, .int .i64 9, .bool o]) r → r ≠ v8 ∧ r ≠ v9 ∧ r ≠ v10 ∧ r ≠ v11 from fun r h => ⟨fun e => hap 1 8 (by simp) (by simp) (by simp) (by omega) (by omega) r (by rw [e1]; exact h) (by rw [e8, e]; simp [hasB, blkOf]), fun e => hap 1 9 (by simp) (by simp) (by simp) (by omega) (by omega) r (by rw [e1]; exact h) (by rw [e9, e]; simp [hasB, blkOf]), fun e => hap 1 10 (by simp) (by simp) (by simp) (by omega) (by omega) r (by rw [e1]; exact h) (by rw [e10, e]; simp [hasB, blkOf]), fun e => hap 1 11 (by simp) (by simp) (by simp) (by omega) (by omega) r (by rw [e1]; exact h) (by rw [e11, e]; simp [hasB, blkOf])⟩)
  have NB := Lib.hid (show ∀ r, hasB (.agg #[.int .i64 30, .slice ma3 4 mc3, .int .i64 hei', .slice ma7 2 mc7, .slice ma11 2 mc11, .int .i64 9, .bool o']) r → r ≠ v8 ∧ r ≠ v9 ∧ r ≠ v10 ∧ r ≠ v11 from fun r h => ⟨fun e => hap 3 8 (by simp) (by simp) (by simp) (by omega) (by omega) r (by rw [e3]; exact h) (by rw [e8, e]; simp [hasB, blkOf]), fun e => hap 3 9 (by simp) (by simp) (by simp) (by omega) (by omega) r (by rw [e3]; exact h) (by rw [e9, e]; simp [hasB, blkOf]), fun e => hap 3 10 (by simp) (by simp) (by simp) (by omega) (by omega) r (by rw [e3]; exact h) (by rw [e10, e]; simp [hasB, blkOf]), fun e => hap 3 11 (by simp) (by simp) (by simp) (by omega) (by omega) r (by rw [e3]; exact h) (by rw [e11, e]; simp [hasB, blkOf])⟩)
  have R1 := Lib.hid r1
  have R3 := Lib.hid r3
  clear hap e1 e3 e8 e9 e10 e11 m1 m3 r1 r3
  have s8_0 := o8.1.2 0 _ rfl
  have z8_0 := o8.2 0
  have s8_1 := o8.1.2 1 _ rfl
  have z8_1 := o8.2 1
  have s8_2 := o8.1.2 2 _ rfl
  have z8_2 := o8.2 2
  have s8_3 := o8.1.2 3 _ rfl
  have z8_3 := o8.2 3
  have s8_4 := o8.1.2 4 _ rfl
  have z8_4 := o8.2 4
  have s8_5 := o8.1.2 5 _ rfl
  have z8_5 := o8.2 5
  have s8_6 := o8.1.2 6 _ rfl
  have z8_6 := o8.2 6
  have s9_0 := o9.1.2 0 _ rfl
  have z9_0 := o9.2 0
  have s9_1 := o9.1.2 1 _ rfl
  have z9_1 := o9.2 1
  have s9_2 := o9.1.2 2 _ rfl
  have z9_2 := o9.2 2
  have s9_3 := o9.1.2 3 _ rfl
  have z9_3 := o9.2 3
  have s9_4 := o9.1.2 4 _ rfl
  have z9_4 := o9.2 4
  have s9_5 := o9.1.2 5 _ rfl
  have z9_5 := o9.2 5
  have s9_6 := o9.1.2 6 _ rfl
  have z9_6 := o9.2 6
  have s10_0 := o10.1.2 0 _ rfl
  have z10_0 := o10.2 0
  have s10_1 := o10.1.2 1 _ rfl
  have z10_1 := o10.2 1
  have s11_0 := o11.1.2 0 _ rfl
  have z11_0 := o11.2 0
  have s11_1 := o11.1.2 1 _ rfl
  have z11_1 := o11.2 1
  go_upto_region 2 with fail
  clear s8_0 z8_0 s8_1 z8_1 s8_2 z8_2 s8_3 z8_3 s8_4 z8_4 s8_5 z8_5 s8_6 z8_6 s9_0 z9_0 s9_1 z9_1 s9_2 z9_2 s9_3 z9_3 s9_4 z9_4 s9_5 z9_5 s9_6 z9_6 s10_0 z10_0 s10_1 z10_1 s11_0 z11_0 s11_1 z11_1
  refine wp_abs (fun Z => Gr U Z ∧ Own Z v8 [.int .i64 30, .slice ka3 4 kc3, .int .i64 hei, .slice ka7 2 kc7, .slice ka11 2 kc11, .int .i64 9, .bool o] ∧ Own Z v9 [.int .i64 30, .slice ma3 4 mc3, .int .i64 hei', .slice ma7 2 mc7, .slice ma11 2 mc11, .int .i64 9, .bool o'] ∧ Own Z v10 [.int .i64 cl, .int .i64 ch] ∧ Own Z v11 [.int .i64 cl', .int .i64 ch'] ∧ Kx (fun j => j = v8 ∨ j = v9 ∨ j = v10 ∨ j = v11) v Z) ⟨((((((((((((((((((gv.setCell (p := ⟨v8, 0, none⟩) l8 _).setCell (p := ⟨v8, 1, none⟩) l8 _).setCell (p := ⟨v8, 2, none⟩) l8 _).setCell (p := ⟨v8, 3, none⟩) l8 _).setCell (p := ⟨v8, 4, none⟩) l8 _).setCell (p := ⟨v8, 5, none⟩) l8 _).setCell (p := ⟨v8, 6, none⟩) l8 _).setCell (p := ⟨v9, 0, none⟩) l9 _).setCell (p := ⟨v9, 1, none⟩) l9 _).setCell (p := ⟨v9, 2, none⟩) l9 _).setCell (p := ⟨v9, 3, none⟩) l9 _).setCell (p := ⟨v9, 4, none⟩) l9 _).setCell (p := ⟨v9, 5, none⟩) l9 _).setCell (p := ⟨v9, 6, none⟩) l9 _).setCell (p := ⟨v10, 0, none⟩) l10 _).setCell (p := ⟨v10, 1, none⟩) l10 _).setCell (p := ⟨v11, 0, none⟩) l11 _).setCell (p := ⟨v11, 1, none⟩) l11 _), ((((((((((((((((((o8.set (i := 0) (by simp)).set (i := 1) (by simp)).set (i := 2) (by simp)).set (i := 3) (by simp)).set (i := 4) (by simp)).set (i := 5) (by simp)).set (i := 6) (by simp)).other d8_9).other d8_9).other d8_9).other d8_9).other d8_9).other d8_9).other d8_9).other d8_10).other d8_10).other d8_11).other d8_11), ((((((((((((((((((o9.other (Ne.symm d8_9)).other (Ne.symm d8_9)).other (Ne.symm d8_9)).other (Ne.symm d8_9)).other (Ne.symm d8_9)).other (Ne.symm d8_9)).other (Ne.symm d8_9)).set (i := 0) (by simp)).set (i := 1) (by simp)).set (i := 2) (by simp)).set (i := 3) (by simp)).set (i := 4) (by simp)).set (i := 5) (by simp)).set (i := 6) (by simp)).other d9_10).other d9_10).other d9_11).other d9_11), ((((((((((((((((((o10.other (Ne.symm d8_10)).other (Ne.symm d8_10)).other (Ne.symm d8_10)).other (Ne.symm d8_10)).other (Ne.symm d8_10)).other (Ne.symm d8_10)).other (Ne.symm d8_10)).other (Ne.symm d9_10)).other (Ne.symm d9_10)).other (Ne.symm d9_10)).other (Ne.symm d9_10)).other (Ne.symm d9_10)).other (Ne.symm d9_10)).other (Ne.symm d9_10)).set (i := 0) (by simp)).set (i := 1) (by simp)).other d10_11).other d10_11), ((((((((((((((((((o11.other (Ne.symm d8_11)).other (Ne.symm d8_11)).other (Ne.symm d8_11)).other (Ne.symm d8_11)).other (Ne.symm d8_11)).other (Ne.symm d8_11)).other (Ne.symm d8_11)).other (Ne.symm d9_11)).other (Ne.symm d9_11)).other (Ne.symm d9_11)).other (Ne.symm d9_11)).other (Ne.symm d9_11)).other (Ne.symm d9_11)).other (Ne.symm d9_11)).other (Ne.symm d10_11)).other (Ne.symm d10_11)).set (i := 0) (by simp)).set (i := 1) (by simp)), (((((((((((((((((((Kx.refl _ _).tr (Kx.set (Z := fun j => j = v8 ∨ j = v9 ∨ j = v10 ∨ j = v11) (p := ⟨v8, 0, none⟩) (.inl rfl) _)).tr (Kx.set (Z := fun j => j = v8 ∨ j = v9 ∨ j = v10 ∨ j = v11) (p := ⟨v8, 1, none⟩) (.inl rfl) _)).tr (Kx.set (Z := fun j => j = v8 ∨ j = v9 ∨ j = v10 ∨ j = v11) (p := ⟨v8, 2, none⟩) (.inl rfl) _)).tr (Kx.set (Z := fun j => j = v8 ∨ j = v9 ∨ j = v10 ∨ j = v11) (p := ⟨v8, 3, none⟩) (.inl rfl) _)).tr (Kx.set (Z := fun j => j = v8 ∨ j = v9 ∨ j = v10 ∨ j = v11) (p := ⟨v8, 4, none⟩) (.inl rfl) _)).tr (Kx.set (Z := fun j => j = v8 ∨ j = v9 ∨ j = v10 ∨ j = v11) (p := ⟨v8, 5, none⟩) (.inl rfl) _)).tr (Kx.set (Z := fun j => j = v8 ∨ j = v9 ∨ j = v10 ∨ j = v11) (p := ⟨v8, 6, none⟩) (.inl rfl) _)).tr (Kx.set (Z := fun j => j = v8 ∨ j = v9 ∨ j = v10 ∨ j = v11) (p := ⟨v9, 0, none⟩) (.inr (.inl rfl)) _)).tr (Kx.set (Z := fun j => j = v8 ∨ j = v9 ∨ j = v10 ∨ j = v11) (p := ⟨v9, 1, none⟩) (.inr (.inl rfl)) _)).tr (Kx.set (Z := fun j => j = v8 ∨ j = v9 ∨ j = v10 ∨ j = v11) (p := ⟨v9, 2, none⟩) (.inr (.inl rfl)) _)).tr (Kx.set (Z := fun j => j = v8 ∨ j = v9 ∨ j = v10 ∨ j = v11) (p := ⟨v9, 3, none⟩) (.inr (.inl rfl)) _)).tr (Kx.set (Z := fun j => j = v8 ∨ j = v9 ∨ j = v10 ∨ j = v11) (p := ⟨v9, 4, none⟩) (.inr (.inl rfl)) _)).tr (Kx.set (Z := fun j => j = v8 ∨ j = v9 ∨ j = v10 ∨ j = v11) (p := ⟨v9, 5, none⟩) (.inr (.inl rfl)) _)).tr (Kx.set (Z := fun j => j = v8 ∨ j = v9 ∨ j = v10 ∨ j = v11) (p := ⟨v9, 6, none⟩) (.inr (.inl rfl)) _)).tr (Kx.set (Z := fun j => j = v8 ∨ j = v9 ∨ j = v10 ∨ j = v11) (p := ⟨v10, 0, none⟩) (.inr (.inr (.inl rfl))) _)).tr (Kx.set (Z := fun j => j = v8 ∨ j = v9 ∨ j = v10 ∨ j = v11) (p := ⟨v10, 1, none⟩) (.inr (.inr (.inl rfl))) _)).tr (Kx.set (Z := fun j => j = v8 ∨ j = v9 ∨ j = v10 ∨ j = v11) (p := ⟨v11, 0, none⟩) (.inr (.inr (.inr rfl))) _)).tr (Kx.set (Z := fun j => j = v8 ∨ j = v9 ∨ j = v10 ∨ j = v11) (p := ⟨v11, 1, none⟩) (.inr (.inr (.inr rfl))) _))⟩ ?_
  clear gv o8 o9 o10 o11 l8 l9 l10 l11
  rintro Z ⟨gZ, oL, oB, oA, oC, KX⟩
  have KX := Lib.hid KX
  have r3 := (RowOf.kx R1.out.1 KX.out (fun b off e e2 => by have h8 := NA.out b (.inr ⟨_, rfl, .slice ka3 4 kc3, by simp, by rw [e]; rfl⟩); rcases e2 with e2 | e2 | e2 | e2 <;> simp_all))
  have r7 := (RowOf.kx R1.out.2.1 KX.out (fun b off e e2 => by have h8 := NA.out b (.inr ⟨_, rfl, .slice ka7 2 kc7, by simp, by rw [e]; rfl⟩); rcases e2 with e2 | e2 | e2 | e2 <;> simp_all))
  have r11 := (RowOf.kx R1.out.2.2 KX.out (fun b off e e2 => by have h8 := NA.out b (.inr ⟨_, rfl, .slice ka11 2 kc11, by simp, by rw [e]; rfl⟩); rcases e2 with e2 | e2 | e2 | e2 <;> simp_all))
  have j3 := (RowOf.kx R3.out.1 KX.out (fun b off e e2 => by have h8 := NB.out b (.inr ⟨_, rfl, .slice ma3 4 mc3, by simp, by rw [e]; rfl⟩); rcases e2 with e2 | e2 | e2 | e2 <;> simp_all))
  have j7 := (RowOf.kx R3.out.2.1 KX.out (fun b off e e2 => by have h8 := NB.out b (.inr ⟨_, rfl, .slice ma7 2 mc7, by simp, by rw [e]; rfl⟩); rcases e2 with e2 | e2 | e2 | e2 <;> simp_all))
  have j11 := (RowOf.kx R3.out.2.2 KX.out (fun b off e e2 => by have h8 := NB.out b (.inr ⟨_, rfl, .slice ma11 2 mc11, by simp, by rw [e]; rfl⟩); rcases e2 with e2 | e2 | e2 | e2 <;> simp_all))
  clear R1 R3 NA NB KX d8_9 d8_10 d8_11 d9_10 d9_11 d10_11
  replace gU := gU.tr gZ
  replace h3 := h3.keep gZ
  replace oL := oL.1
  replace oB := oB.1
  replace oA := oA.1
  replace oC := oC.1
  clear gZ h1 h2
  have HL := Lib.hid HS.out.ok
  have HB := Lib.hid HS'.out.ok
  have KA := Lib.hid HK.out.ok
  have KC := Lib.hid HK'.out.ok
  refine (show (∀ sa : Nat → Value, Code.wp Try.prog _ _ ⟨#[sa 0, sa 1, sa 2, sa 3, sa 4, .pointer (some ⟨(w.heap.size + 1 + 1), 0, none⟩), .bool false, .pointer (some ⟨v8, 0, none⟩), .pointer (some ⟨v9, 0, none⟩), .pointer (some ⟨v10, 0, none⟩), .pointer (some ⟨v11, 0, none⟩), undef, undef, undef, undef, undef, undef, undef, undef, undef, undef, undef, undef, undef, undef, undef, undef, undef, undef, undef, undef, undef, undef, undef, undef, sa 35, sa 36, sa 37, sa 38, sa 39, sa 40, sa 41, sa 42, undef, undef, undef, undef, undef, undef, undef, undef, undef, undef, undef, undef, undef, undef, undef, undef, undef, undef, undef, undef, undef, undef, undef, undef, undef, undef, undef, undef, undef, undef, undef, undef, undef, undef, undef, undef, undef, undef, undef, undef, undef, undef, undef, undef, undef, undef, undef, undef, undef, undef, undef, undef, undef, undef, undef, undef, undef, undef, undef, undef, undef, undef, undef, undef, undef, undef, undef, undef, undef, undef, undef, undef, undef, undef, undef, undef, undef, undef, undef, undef, undef, undef, undef, undef, undef, undef, undef, undef, undef, undef, undef, undef, undef, undef, undef, undef, undef, undef, undef, undef, undef, undef, undef, undef, undef, undef, undef, undef, undef, undef, undef, undef, undef, undef, undef, undef, undef, undef, undef, undef, undef, undef, undef, undef, undef, undef, undef, undef, undef, undef, undef, undef, undef, undef, undef, undef, undef, undef, undef, undef, undef, undef, undef, undef, undef, undef, undef, undef, undef, undef, undef, undef, undef, undef, undef, undef, undef, undef, undef, undef, undef, undef, undef, undef, undef, undef, undef, undef, undef, undef, undef, undef, undef, undef, undef, undef, undef, undef, undef, undef, undef, undef, undef, undef, undef, undef, undef, undef, undef, undef, undef, undef, undef, undef, undef, undef, undef, undef, undef, undef, undef, undef, undef, undef, undef, undef, undef, undef, undef, undef, undef, undef, undef, undef, undef, undef, undef, undef, undef, undef, undef, undef, undef, undef, undef, undef, undef, undef, undef, undef, undef, undef, undef, undef, undef, undef, undef, undef, undef, undef, undef, undef, undef, undef, undef, undef, undef, undef, undef, undef, undef, undef, undef, undef, undef, undef, undef, undef, undef, undef, undef, undef, undef, undef, undef, undef, undef, undef, undef, undef, undef, undef, undef, undef, undef, undef, undef, undef, undef, undef, undef, undef, undef, undef, undef, undef, undef, undef, undef, undef, undef], []⟩ _) → _ from fun h => h ((fun l : List Value => fun i => l.getD i undef) [_, _, _, _, _, undef, undef, undef, undef, undef, undef, undef, undef, undef, undef, undef, undef, undef, undef, undef, undef, undef, undef, undef, undef, undef, undef, undef, undef, undef, undef, undef, undef, undef, undef, _, _, _, _, _, _, _, _])) ?_
  intro sa
  dsimp only
  refine wp_region_facts 11 [(1, 0), (3, 2), (6, 1), (6, 3), (6, 4), (6, 5), (7, 6), (8, 7), (9, 7), (10, 8)] (fun x => ⟨#[sa 0, sa 1, sa 2, sa 3, sa 4, .pointer (some ⟨(w.heap.size + 1 + 1), 0, none⟩), .bool false, .pointer (some ⟨v8, 0, none⟩), .pointer (some ⟨v9, 0, none⟩), .pointer (some ⟨v10, 0, none⟩), .pointer (some ⟨v11, 0, none⟩), x 10, undef, undef, undef, undef, undef, undef, undef, undef, undef, undef, undef, undef, undef, undef, undef, undef, undef, undef, undef, undef, undef, undef, undef, sa 35, sa 36, sa 37, sa 38, sa 39, sa 40, sa 41, sa 42, x 7, x 0, x 1, x 2, x 3, x 4, x 5, x 6, x 8, x 9, undef, undef, undef, undef, undef, undef, undef, undef, undef, undef, undef, undef, undef, undef, undef, undef, undef, undef, undef, undef, undef, undef, undef, undef, undef, undef, undef, undef, undef, undef, undef, undef, undef, undef, undef, undef, undef, undef, undef, undef, undef, undef, undef, undef, undef, undef, undef, undef, undef, undef, undef, undef, undef, undef, undef, undef, undef, undef, undef, undef, undef, undef, undef, undef, undef, undef, undef, undef, undef, undef, undef, undef, undef, undef, undef, undef, undef, undef, undef, undef, undef, undef, undef, undef, undef, undef, undef, undef, undef, undef, undef, undef, undef, undef, undef, undef, undef, undef, undef, undef, undef, undef, undef, undef, undef, undef, undef, undef, undef, undef, undef, undef, undef, undef, undef, undef, undef, undef, undef, undef, undef, undef, undef, undef, undef, undef, undef, undef, undef, undef, undef, undef, undef, undef, undef, undef, undef, undef, undef, undef, undef, undef, undef, undef, undef, undef, undef, undef, undef, undef, undef, undef, undef, undef, undef, undef, undef, undef, undef, undef, undef, undef, undef, undef, undef, undef, undef, undef, undef, undef, undef, undef, undef, undef, undef, undef, undef, undef, undef, undef, undef, undef, undef, undef, undef, undef, undef, undef, undef, undef, undef, undef, undef, undef, undef, undef, undef, undef, undef, undef, undef, undef, undef, undef, undef, undef, undef, undef, undef, undef, undef, undef, undef, undef, undef, undef, undef, undef, undef, undef, undef, undef, undef, undef, undef, undef, undef, undef, undef, undef, undef, undef, undef, undef, undef, undef, undef, undef, undef, undef, undef, undef, undef, undef, undef, undef, undef, undef, undef, undef, undef, undef, undef, undef, undef, undef, undef, undef, undef, undef, undef, undef, undef, undef, undef, undef, undef, undef, undef, undef, undef, undef, undef, undef, undef, undef, undef, undef, undef, undef, undef], []⟩) (fun _ => undef) [fun _ x => x = .agg #[.int .i64 30, .slice ka3 4 kc3, .int .i64 hei, .slice ka7 2 kc7, .slice ka11 2 kc11, .int .i64 9, .bool o], fun v x => ∃ naa3 nac3 naa7 nac7 naa11 nac11, x = .agg #[.int .i64 30, .slice naa3 4 nac3, .int .i64 hei, .slice naa7 2 nac7, .slice naa11 2 nac11, .int .i64 9, .bool o] ∧ (IRow v naa3 [a0, a1, a2, a3] ∧ IRow v naa7 [t0, t1] ∧ IRow v naa11 [s0, s1]), fun _ x => x = .agg #[.int .i64 30, .slice ma3 4 mc3, .int .i64 hei', .slice ma7 2 mc7, .slice ma11 2 mc11, .int .i64 9, .bool o'], fun v x => ∃ nba3 nbc3 nba7 nbc7 nba11 nbc11, x = .agg #[.int .i64 30, .slice nba3 4 nbc3, .int .i64 hei', .slice nba7 2 nbc7, .slice nba11 2 nbc11, .int .i64 9, .bool o'] ∧ (IRow v nba3 [q0, q1, q2, q3] ∧ IRow v nba7 [u0, u1] ∧ IRow v nba11 [z0, z1]), fun _ x => x = .agg #[.int .i64 cl, .int .i64 ch], fun _ x => x = .agg #[.int .i64 cl', .int .i64 ch'], fun v x => ∃ bb6 bf6 bc6, x = .tuple #[.slice (some ⟨bb6, bf6, none⟩) 4 bc6, .int .i64 0] ∧ SRow v (some ⟨bb6, bf6, none⟩) [playX a0 q0 cl ch cl' ch', playX a1 q1 cl ch cl' ch', playX a2 q2 cl ch cl' ch', playX a3 q3 cl ch cl' ch'], fun v x => ∃ bb7 bf7 bc7, x = .tuple #[.slice (some ⟨bb7, bf7, none⟩) 4 bc7, .int .i64 0] ∧ SRow v (some ⟨bb7, bf7, none⟩) [playX a0 q0 cl ch cl' ch', playX a1 q1 cl ch cl' ch', playX a2 q2 cl ch cl' ch', playX a3 q3 cl ch cl' ch'], fun v x => ∃ bb8 bf8 bc8, x = .slice (some ⟨bb8, bf8, none⟩) 4 bc8 ∧ SRow v (some ⟨bb8, bf8, none⟩) [playX a0 q0 cl ch cl' ch', playX a1 q1 cl ch cl' ch', playX a2 q2 cl ch cl' ch', playX a3 q3 cl ch cl' ch'], fun _ x => x = .int .i64 0, fun v x => ∃ bb10 bf10 bc10, x = .slice (some ⟨bb10, bf10, none⟩) 4 bc10 ∧ SRow v (some ⟨bb10, bf10, none⟩) [playX a0 q0 cl ch cl' ch', playX a1 q1 cl ch cl' ch', playX a2 q2 cl ch cl' ch', playX a3 q3 cl ch cl' ch']] (by rfl) (by kernel_rfl) (by kernel_rfl) (by kernel_rfl) (stays_cons (Stays.eq _) (stays_cons ((show Stays (fun v x => ∃ naa3 nac3 naa7 nac7 naa11 nac11, x = .agg #[.int .i64 30, .slice naa3 4 nac3, .int .i64 hei, .slice naa7 2 nac7, .slice naa11 2 nac11, .int .i64 9, .bool o] ∧ (IRow v naa3 [a0, a1, a2, a3] ∧ IRow v naa7 [t0, t1] ∧ IRow v naa11 [s0, s1])) from fun v v' x g ⟨a, b, c, d, e, f, h, r1, r2, r3⟩ => ⟨a, b, c, d, e, f, h, r1.grow g, r2.grow g, r3.grow g⟩)) (stays_cons (Stays.eq _) (stays_cons ((show Stays (fun v x => ∃ nba3 nbc3 nba7 nbc7 nba11 nbc11, x = .agg #[.int .i64 30, .slice nba3 4 nbc3, .int .i64 hei', .slice nba7 2 nbc7, .slice nba11 2 nbc11, .int .i64 9, .bool o'] ∧ (IRow v nba3 [q0, q1, q2, q3] ∧ IRow v nba7 [u0, u1] ∧ IRow v nba11 [z0, z1])) from fun v v' x g ⟨a, b, c, d, e, f, h, r1, r2, r3⟩ => ⟨a, b, c, d, e, f, h, r1.grow g, r2.grow g, r3.grow g⟩)) (stays_cons (Stays.eq _) (stays_cons (Stays.eq _) (stays_cons ((show Stays (fun v x => ∃ bb6 bf6 bc6, x = .tuple #[.slice (some ⟨bb6, bf6, none⟩) 4 bc6, .int .i64 0] ∧ SRow v (some ⟨bb6, bf6, none⟩) [playX a0 q0 cl ch cl' ch', playX a1 q1 cl ch cl' ch', playX a2 q2 cl ch cl' ch', playX a3 q3 cl ch cl' ch']) from fun v v' x g ⟨a, b, c, h, r⟩ => ⟨a, b, c, h, r.grow g⟩)) (stays_cons ((show Stays (fun v x => ∃ bb7 bf7 bc7, x = .tuple #[.slice (some ⟨bb7, bf7, none⟩) 4 bc7, .int .i64 0] ∧ SRow v (some ⟨bb7, bf7, none⟩) [playX a0 q0 cl ch cl' ch', playX a1 q1 cl ch cl' ch', playX a2 q2 cl ch cl' ch', playX a3 q3 cl ch cl' ch']) from fun v v' x g ⟨a, b, c, h, r⟩ => ⟨a, b, c, h, r.grow g⟩)) (stays_cons ((show Stays (fun v x => ∃ bb8 bf8 bc8, x = .slice (some ⟨bb8, bf8, none⟩) 4 bc8 ∧ SRow v (some ⟨bb8, bf8, none⟩) [playX a0 q0 cl ch cl' ch', playX a1 q1 cl ch cl' ch', playX a2 q2 cl ch cl' ch', playX a3 q3 cl ch cl' ch']) from fun v v' x g ⟨a, b, c, h, r⟩ => ⟨a, b, c, h, r.grow g⟩)) (stays_cons (Stays.eq _) (stays_cons ((show Stays (fun v x => ∃ bb10 bf10 bc10, x = .slice (some ⟨bb10, bf10, none⟩) 4 bc10 ∧ SRow v (some ⟨bb10, bf10, none⟩) [playX a0 q0 cl ch cl' ch', playX a1 q1 cl ch cl' ch', playX a2 q2 cl ch cl' ch', playX a3 q3 cl ch cl' ch']) from fun v v' x g ⟨a, b, c, h, r⟩ => ⟨a, b, c, h, r.grow g⟩)) stays_nil))))))))))) ?step2 ?fin2
  case step2 => as_aux_lemma =>
   rintro i hi x v gv hd K hK
   have hi8 : i = 0 ∨ i = 1 ∨ i = 2 ∨ i = 3 ∨ i = 4 ∨ i = 5 ∨ i = 6 ∨ i = 7 ∨ i = 8 ∨ i = 9 ∨ i = 10 := by omega
   rcases hi8 with rfl | rfl | rfl | rfl | rfl | rfl | rfl | rfl | rfl | rfl | rfl
   ·dsimp only [upd, Nat.reduceBEq, cond_true, cond_false]
    refine wpOp_step rfl (fun K' hK' => ?_)
    rw [if_pos (by rfl)]
    refine wp_load_mid 24 _ rfl v8 0 (by rfl) [.int .i64 30, .slice ka3 4 kc3, .int .i64 hei, .slice ka7 2 kc7, .slice ka11 2 kc11, .int .i64 9, .bool o] _ (fun j u hu => by rw [Nat.zero_add]; exact (oL.keep gv).2 j u hu) Try.underlying24 rfl (by kernel_rfl) ?_
    exact hK' _ _ (hK _ _ (Below.refl _ _) (at_of rfl (rfl)))
   ·obtain ⟨x, rfl⟩ := upd_of (show x 0 = .agg #[.int .i64 30, .slice ka3 4 kc3, .int .i64 hei, .slice ka7 2 kc7, .slice ka11 2 kc11, .int .i64 9, .bool o] from hd 0 _ (by simp) rfl)
    dsimp only [upd, Nat.reduceBEq, cond_true, cond_false]
    refine wpOp_step rfl (fun K' hK' => ?_)
    go_simp
    refine (own4_any a0 a1 a2 a3 t0 t1 s0 s1 hei o _ _ _ _ _ _ v (r3.grow gv) (r7.grow gv) (r11.grow gv)).mono ?_
    rintro e v' ⟨w3, b3, w7, b7, w11, b11, rfl, hg, r1, r2, r3⟩
    exact hK' _ _ (hK _ _ hg (at_of rfl (⟨_, _, _, _, _, _, rfl, r1, r2, r3⟩)))
   ·dsimp only [upd, Nat.reduceBEq, cond_true, cond_false]
    refine wpOp_step rfl (fun K' hK' => ?_)
    rw [if_pos (by rfl)]
    refine wp_load_mid 24 _ rfl v9 0 (by rfl) [.int .i64 30, .slice ma3 4 mc3, .int .i64 hei', .slice ma7 2 mc7, .slice ma11 2 mc11, .int .i64 9, .bool o'] _ (fun j u hu => by rw [Nat.zero_add]; exact (oB.keep gv).2 j u hu) Try.underlying24 rfl (by kernel_rfl) ?_
    exact hK' _ _ (hK _ _ (Below.refl _ _) (at_of rfl (rfl)))
   ·obtain ⟨x, rfl⟩ := upd_of (show x 2 = .agg #[.int .i64 30, .slice ma3 4 mc3, .int .i64 hei', .slice ma7 2 mc7, .slice ma11 2 mc11, .int .i64 9, .bool o'] from hd 2 _ (by simp) rfl)
    dsimp only [upd, Nat.reduceBEq, cond_true, cond_false]
    refine wpOp_step rfl (fun K' hK' => ?_)
    go_simp
    refine (own4_any q0 q1 q2 q3 u0 u1 z0 z1 hei' o' _ _ _ _ _ _ v (j3.grow gv) (j7.grow gv) (j11.grow gv)).mono ?_
    rintro e v' ⟨w3, b3, w7, b7, w11, b11, rfl, hg, r1, r2, r3⟩
    exact hK' _ _ (hK _ _ hg (at_of rfl (⟨_, _, _, _, _, _, rfl, r1, r2, r3⟩)))
   ·dsimp only [upd, Nat.reduceBEq, cond_true, cond_false]
    refine wpOp_step rfl (fun K' hK' => ?_)
    rw [if_pos (by rfl)]
    refine wp_load_mid 37 _ rfl v10 0 (by rfl) [.int .i64 cl, .int .i64 ch] _ (fun j u hu => by rw [Nat.zero_add]; exact (oA.keep gv).2 j u hu) Try.underlying37 rfl (by kernel_rfl) ?_
    exact hK' _ _ (hK _ _ (Below.refl _ _) (at_of rfl (rfl)))
   ·dsimp only [upd, Nat.reduceBEq, cond_true, cond_false]
    refine wpOp_step rfl (fun K' hK' => ?_)
    rw [if_pos (by rfl)]
    refine wp_load_mid 37 _ rfl v11 0 (by rfl) [.int .i64 cl', .int .i64 ch'] _ (fun j u hu => by rw [Nat.zero_add]; exact (oC.keep gv).2 j u hu) Try.underlying37 rfl (by kernel_rfl) ?_
    exact hK' _ _ (hK _ _ (Below.refl _ _) (at_of rfl (rfl)))
   ·obtain ⟨naa3, nac3, naa7, nac7, naa11, nac11, e1, r1⟩ := hd 1 _ (by simp) rfl
    obtain ⟨x, rfl⟩ := upd_of (show x 1 = .agg #[.int .i64 30, .slice naa3 4 nac3, .int .i64 hei, .slice naa7 2 nac7, .slice naa11 2 nac11, .int .i64 9, .bool o] from e1)
    obtain ⟨nba3, nbc3, nba7, nbc7, nba11, nbc11, e3, r3⟩ := hd 3 _ (by simp) rfl
    obtain ⟨x, rfl⟩ := upd_of (show x 3 = .agg #[.int .i64 30, .slice nba3 4 nbc3, .int .i64 hei', .slice nba7 2 nbc7, .slice nba11 2 nbc11, .int .i64 9, .bool o'] from e3)
    obtain ⟨x, rfl⟩ := upd_of (show x 4 = .agg #[.int .i64 cl, .int .i64 ch] from hd 4 _ (by simp) rfl)
    obtain ⟨x, rfl⟩ := upd_of (show x 5 = .agg #[.int .i64 cl', .int .i64 ch'] from hd 5 _ (by simp) rfl)
    dsimp only [upd, Nat.reduceBEq, cond_true, cond_false]
    refine wpOp_step rfl (fun K' hK' => ?_)
    go_simp
    refine (play4_any a0 a1 a2 a3 t0 t1 s0 s1 hei o q0 q1 q2 q3 u0 u1 z0 z1 hei' o' cl ch cl' ch' HL.out HB.out KA.out KC.out _ _ _ _ _ _ _ _ _ _ _ _ v r1.1 r1.2.1 r1.2.2 r3.1 r3.2.1 r3.2.2).mono ?_
    rintro e v' ⟨b9, f9, c9, rfl, hg, r⟩
    exact hK' _ _ (hK _ _ hg (at_of rfl (⟨_, _, _, rfl, r⟩)))
   ·obtain ⟨bb6, bf6, bc6, e6, r6⟩ := hd 6 _ (by simp) rfl
    obtain ⟨x, rfl⟩ := upd_of (show x 6 = .tuple #[.slice (some ⟨bb6, bf6, none⟩) 4 bc6, .int .i64 0] from e6)
    dsimp only [upd, Nat.reduceBEq, cond_true, cond_false]
    refine wpOp_step rfl (fun K' hK' => ?_)
    go_simp
    exact hK' _ _ (hK _ _ (Below.refl _ _) (at_of rfl (⟨_, _, _, rfl, r6⟩)))
   ·obtain ⟨bb7, bf7, bc7, e7, r7⟩ := hd 7 _ (by simp) rfl
    obtain ⟨x, rfl⟩ := upd_of (show x 7 = .tuple #[.slice (some ⟨bb7, bf7, none⟩) 4 bc7, .int .i64 0] from e7)
    dsimp only [upd, Nat.reduceBEq, cond_true, cond_false]
    refine wpOp_step rfl (fun K' hK' => ?_)
    go_simp
    exact hK' _ _ (hK _ _ (Below.refl _ _) (at_of rfl (⟨_, _, _, rfl, r7⟩)))
   ·obtain ⟨bb7, bf7, bc7, e7, r7⟩ := hd 7 _ (by simp) rfl
    obtain ⟨x, rfl⟩ := upd_of (show x 7 = .tuple #[.slice (some ⟨bb7, bf7, none⟩) 4 bc7, .int .i64 0] from e7)
    dsimp only [upd, Nat.reduceBEq, cond_true, cond_false]
    refine wpOp_step rfl (fun K' hK' => ?_)
    go_simp
    exact hK' _ _ (hK _ _ (Below.refl _ _) (at_of rfl (rfl)))
   ·obtain ⟨bb8, bf8, bc8, e8, r8⟩ := hd 8 _ (by simp) rfl
    obtain ⟨x, rfl⟩ := upd_of (show x 8 = .slice (some ⟨bb8, bf8, none⟩) 4 bc8 from e8)
    dsimp only [upd, Nat.reduceBEq, cond_true, cond_false]
    refine wpOp_step rfl (fun K' hK' => ?_)
    go_simp
    exact hK' _ _ (hK _ _ (Below.refl _ _) (at_of rfl (⟨_, _, _, rfl, r8⟩)))
  case fin2 =>
   rintro x v gv hd
   obtain ⟨x, rfl⟩ := upd_of (show x 9 = .int .i64 0 from hd 9 _ (by omega) rfl)
   obtain ⟨bb10, bf10, bc10, e10, r10⟩ := hd 10 _ (by omega) rfl
   obtain ⟨x, rfl⟩ := upd_of (show x 10 = .slice (some ⟨bb10, bf10, none⟩) 4 bc10 from e10)
   clear hd
   show wpList Try.prog _ _ (List.drop 11 _) (⟨#[_, _, _, _, _, _, _, _, _, _, _, .slice (some ⟨bb10, bf10, none⟩) 4 bc10, _, _, _, _, _, _, _, _, _, _, _, _, _, _, _, _, _, _, _, _, _, _, _, _, _, _, _, _, _, _, _, x 7, x 0, x 1, x 2, x 3, x 4, x 5, x 6, x 8, .int .i64 0, _, _, _, _, _, _, _, _, _, _, _, _, _, _, _, _, _, _, _, _, _, _, _, _, _, _, _, _, _, _, _, _, _, _, _, _, _, _, _, _, _, _, _, _, _, _, _, _, _, _, _, _, _, _, _, _, _, _, _, _, _, _, _, _, _, _, _, _, _, _, _, _, _, _, _, _, _, _, _, _, _, _, _, _, _, _, _, _, _, _, _, _, _, _, _, _, _, _, _, _, _, _, _, _, _, _, _, _, _, _, _, _, _, _, _, _, _, _, _, _, _, _, _, _, _, _, _, _, _, _, _, _, _, _, _, _, _, _, _, _, _, _, _, _, _, _, _, _, _, _, _, _, _, _, _, _, _, _, _, _, _, _, _, _, _, _, _, _, _, _, _, _, _, _, _, _, _, _, _, _, _, _, _, _, _, _, _, _, _, _, _, _, _, _, _, _, _, _, _, _, _, _, _, _, _, _, _, _, _, _, _, _, _, _, _, _, _, _, _, _, _, _, _, _, _, _, _, _, _, _, _, _, _, _, _, _, _, _, _, _, _, _, _, _, _, _, _, _, _, _, _, _, _, _, _, _, _, _, _, _, _, _, _, _, _, _, _, _, _, _, _, _, _, _, _, _, _, _, _, _, _], []⟩ : Act) v
   simp only [List.drop_succ_cons, List.drop_zero]
   replace gU := gU.tr gv
   replace h3 := h3.keep gv
   replace oL := oL.keep gv
   replace oB := oB.keep gv
   replace oA := oA.keep gv
   replace oC := oC.keep gv
   replace r3 := r3.grow gv
   replace r7 := r7.grow gv
   replace r11 := r11.grow gv
   replace j3 := j3.grow gv
   replace j7 := j7.grow gv
   replace j11 := j11.grow gv
   have rL := r10
   clear r10 gv e10
   go_upto_region 3 with fail
   obtain ⟨vv0, vv1, vv2, vv3⟩ := h3.c4
   obtain ⟨hv00, hv01⟩ := hv0
   obtain ⟨hv10, hv11⟩ := hv1
   obtain ⟨less, hless⟩ : ∃ z, v0 % 100 = z := ⟨_, rfl⟩
   obtain ⟨more, hmore⟩ : ∃ z, v1 % 40 = z := ⟨_, rfl⟩
   have lb0 : 0 ≤ less := by omega
   have lb1 : less ≤ 99 := by omega
   have mb0 : 0 ≤ more := by omega
   have mb1 : more ≤ 39 := by omega
   have f0 : IntKind.i64.wrap v0 = v0 := IntWalk.i64_in _ (by omega)
   have f1 : IntKind.i64.wrap v1 = v1 := IntWalk.i64_in _ (by omega)
   have f2 : v0.tmod 100 = less := by rw [Int.tmod_eq_emod_of_nonneg (by omega)]; exact hless
   have f3 : v1.tmod 40 = more := by rw [Int.tmod_eq_emod_of_nonneg (by omega)]; exact hmore
   clear hless hmore
   go_quiet (fail)
   clear f0 f1 f2 f3 vv0 vv1 vv2 vv3
   go_upto_region 4 with fail
   refine wp_abs (fun Z => Gr v Z) (Gr.drewN (Below.refl _ _) _) ?_
   rintro Y gY
   replace gU := gU.tr gY
   replace h3 := h3.keep gY
   replace oL := oL.keep gY
   replace oB := oB.keep gY
   replace oA := oA.keep gY
   replace oC := oC.keep gY
   replace r3 := r3.grow gY
   replace r7 := r7.grow gY
   replace r11 := r11.grow gY
   replace j3 := j3.grow gY
   replace j7 := j7.grow gY
   replace j11 := j11.grow gY
   replace rL := rL.grow gY
   clear gY
   obtain ⟨g0, hg0⟩ : ∃ z, a0 + more = z := ⟨_, rfl⟩
   have wg0 : IntKind.i64.wrap (a0 + more) = g0 := by
    have := HS.out.1
    rw [IntWalk.i64_in _ (by omega)]
    exact hg0
   obtain ⟨g1, hg1⟩ : ∃ z, a1 + more = z := ⟨_, rfl⟩
   have wg1 : IntKind.i64.wrap (a1 + more) = g1 := by
    have := HS.out.2.1
    rw [IntWalk.i64_in _ (by omega)]
    exact hg1
   obtain ⟨g2, hg2⟩ : ∃ z, a2 + more = z := ⟨_, rfl⟩
   have wg2 : IntKind.i64.wrap (a2 + more) = g2 := by
    have := HS.out.2.2.1
    rw [IntWalk.i64_in _ (by omega)]
    exact hg2
   obtain ⟨g3, hg3⟩ : ∃ z, a3 + more = z := ⟨_, rfl⟩
   have wg3 : IntKind.i64.wrap (a3 + more) = g3 := by
    have := HS.out.2.2.2.1
    rw [IntWalk.i64_in _ (by omega)]
    exact hg3
   have HG : Hid (Blank4 g0 g1 g2 g3 t0 t1 s0 s1 hei o) := Lib.hid (by
    rw [← hg0, ← hg1, ← hg2, ← hg3]
    exact HS.out.more mb0 mb1)
   have HG0 := Lib.hid hg0
   have HG1 := Lib.hid hg1
   have HG2 := Lib.hid hg2
   have HG3 := Lib.hid hg3
   clear hg0 hg1 hg2 hg3
   obtain ⟨b0, b1, b2, b3, b4, b5, b6⟩ := oL.c7
   go_upto_region 5 with (go_at_call 16; refine (long4_any a0 a1 a2 a3 t0 t1 s0 s1 hei o _ _ _ _ _ _ _ r3 r7 r11).mono ?_; rintro e wL ⟨w3, lc3, w7, lc7, w11, lc11, rfl, gL, oK, m7, m11, lk, n7, n11⟩)
   obtain ⟨B, hB⟩ : ∃ B, B = wL.heap.size := ⟨_, rfl⟩
   have oW := Box.new wL [.int .i64 30, .slice (some ⟨w3, 0, none⟩) 4 lc3, .int .i64 hei, .slice (some ⟨w7, 0, none⟩) 2 lc7, .slice (some ⟨w11, 0, none⟩) 2 lc11, .int .i64 9, .bool o] 24 B hB
   have nB : B ≠ w3 := by have := oK.1.1; omega
   rw [← hB]
   clear b0 b1 b2 b3 b4 b5 b6
   refine wp_abs (fun X => Gr Y X ∧ Box X B [.int .i64 30, .slice (some ⟨w3, 0, none⟩) 4 lc3, .int .i64 hei, .slice (some ⟨w7, 0, none⟩) 2 lc7, .slice (some ⟨w11, 0, none⟩) 2 lc11, .int .i64 9, .bool o] ∧ Own X w3 [.int .i64 a0, .int .i64 a1, .int .i64 a2, .int .i64 a3] ∧ IRow X (some ⟨w7, 0, none⟩) [t0, t1] ∧ IRow X (some ⟨w11, 0, none⟩) [s0, s1]) ⟨gL.tr (Gr.al _ _), oW, oK.keep (Gr.al _ _), m7.grow (Gr.al _ _), m11.grow (Gr.al _ _)⟩ ?_
   clear gL oW oK m7 m11 hB
   rintro X ⟨gX, oW, oK, m7, m11⟩
   go_wp2
   go_loopw [16] (fun x wr => Hid (Gr Y wr ∧ Box wr B [.int .i64 30, .slice (some ⟨w3, 0, none⟩) 4 lc3, .int .i64 hei, .slice (some ⟨w7, 0, none⟩) 2 lc7, .slice (some ⟨w11, 0, none⟩) 2 lc11, .int .i64 9, .bool o] ∧ IRow wr (some ⟨w7, 0, none⟩) [t0, t1] ∧ IRow wr (some ⟨w11, 0, none⟩) [s0, s1] ∧ ((x = .int .i64 0 ∧ Own wr w3 [.int .i64 a0, .int .i64 a1, .int .i64 a2, .int .i64 a3]) ∨ (x = .int .i64 1 ∧ Own wr w3 [.int .i64 g0, .int .i64 a1, .int .i64 a2, .int .i64 a3]) ∨ (x = .int .i64 2 ∧ Own wr w3 [.int .i64 g0, .int .i64 g1, .int .i64 a2, .int .i64 a3]) ∨ (x = .int .i64 3 ∧ Own wr w3 [.int .i64 g0, .int .i64 g1, .int .i64 g2, .int .i64 a3]) ∨ (x = .int .i64 4 ∧ Own wr w3 [.int .i64 g0, .int .i64 g1, .int .i64 g2, .int .i64 g3])))) (fun x wr => 4 - (intOf x).toNat)
   case atStart => exact Lib.hid ⟨gX, oW, m7, m11, .inl ⟨rfl, oK⟩⟩
   case round =>
    obtain ⟨gV, oV, h7, h11, hx⟩ := hrel.out
    clear hrel gX oW m7 m11 oK
    have l1 := oV.2 1 _ rfl
    rcases hx with ⟨rfl, oK⟩ | ⟨rfl, oK⟩ | ⟨rfl, oK⟩ | ⟨rfl, oK⟩ | ⟨rfl, oK⟩
    ·obtain ⟨e0, e1, e2, e3⟩ := oK.1.c4
     have zk := oK.2 0
     go_wp2
     go_roundw
     case rel => exact Lib.hid ⟨gV.setCell (p := ⟨w3, 0, none⟩) lk _, oV.other nB, RowOf.kx h7 (Kx.set (Z := fun j => j = w3) (p := ⟨w3, 0, none⟩) rfl _) (fun b off e e2 => by cases e; exact n7 e2.symm), RowOf.kx h11 (Kx.set (Z := fun j => j = w3) (p := ⟨w3, 0, none⟩) rfl _) (fun b off e e2 => by cases e; exact n11 e2.symm), .inr (.inl ⟨rfl, oK.set (i := 0) (by simp)⟩)⟩
     case measure => simp [intOf]
    ·obtain ⟨e0, e1, e2, e3⟩ := oK.1.c4
     have zk := oK.2 1
     go_wp2
     go_roundw
     case rel => exact Lib.hid ⟨gV.setCell (p := ⟨w3, 1, none⟩) lk _, oV.other nB, RowOf.kx h7 (Kx.set (Z := fun j => j = w3) (p := ⟨w3, 1, none⟩) rfl _) (fun b off e e2 => by cases e; exact n7 e2.symm), RowOf.kx h11 (Kx.set (Z := fun j => j = w3) (p := ⟨w3, 1, none⟩) rfl _) (fun b off e e2 => by cases e; exact n11 e2.symm), .inr (.inr (.inl ⟨rfl, oK.set (i := 1) (by simp)⟩))⟩
     case measure => simp [intOf]
    ·obtain ⟨e0, e1, e2, e3⟩ := oK.1.c4
     have zk := oK.2 2
     go_wp2
     go_roundw
     case rel => exact Lib.hid ⟨gV.setCell (p := ⟨w3, 2, none⟩) lk _, oV.other nB, RowOf.kx h7 (Kx.set (Z := fun j => j = w3) (p := ⟨w3, 2, none⟩) rfl _) (fun b off e e2 => by cases e; exact n7 e2.symm), RowOf.kx h11 (Kx.set (Z := fun j => j = w3) (p := ⟨w3, 2, none⟩) rfl _) (fun b off e e2 => by cases e; exact n11 e2.symm), .inr (.inr (.inr (.inl ⟨rfl, oK.set (i := 2) (by simp)⟩)))⟩
     case measure => simp [intOf]
    ·obtain ⟨e0, e1, e2, e3⟩ := oK.1.c4
     have zk := oK.2 3
     go_wp2
     go_roundw
     case rel => exact Lib.hid ⟨gV.setCell (p := ⟨w3, 3, none⟩) lk _, oV.other nB, RowOf.kx h7 (Kx.set (Z := fun j => j = w3) (p := ⟨w3, 3, none⟩) rfl _) (fun b off e e2 => by cases e; exact n7 e2.symm), RowOf.kx h11 (Kx.set (Z := fun j => j = w3) (p := ⟨w3, 3, none⟩) rfl _) (fun b off e e2 => by cases e; exact n11 e2.symm), .inr (.inr (.inr (.inr (⟨rfl, oK.set (i := 3) (by simp)⟩))))⟩
     case measure => simp [intOf]
    ·have mK := Own.row (l := [g0, g1, g2, g3]) oK (by simp)
     clear oK l1 wg0 wg1 wg2 wg3
     go_upto_region 9 with fail
     replace gU := gU.tr gV
     replace h3 := h3.keep gV
     replace oL := oL.keep gV
     replace oB := oB.keep gV
     replace oA := oA.keep gV
     replace oC := oC.keep gV
     replace r3 := r3.grow gV
     replace r7 := r7.grow gV
     replace r11 := r11.grow gV
     replace j3 := j3.grow gV
     replace j7 := j7.grow gV
     replace j11 := j11.grow gV
     replace rL := rL.grow gV
     clear gV
     obtain ⟨kb0, kb1, kb2⟩ := HK.out
     obtain ⟨jb0, jb1, jb2⟩ := HK'.out
     obtain ⟨k0, hk0⟩ : ∃ z, cl - less = z := ⟨_, rfl⟩
     have wk0 : IntKind.i64.wrap (cl - less) = k0 := by
      rw [IntWalk.i64_in _ (by omega)]
      exact hk0
     obtain ⟨k1, hk1⟩ : ∃ z, ch - less = z := ⟨_, rfl⟩
     have wk1 : IntKind.i64.wrap (ch - less) = k1 := by
      rw [IntWalk.i64_in _ (by omega)]
      exact hk1
     obtain ⟨j0, hj0⟩ : ∃ z, cl' - less = z := ⟨_, rfl⟩
     have wj0 : IntKind.i64.wrap (cl' - less) = j0 := by
      rw [IntWalk.i64_in _ (by omega)]
      exact hj0
     obtain ⟨j1, hj1⟩ : ∃ z, ch' - less = z := ⟨_, rfl⟩
     have wj1 : IntKind.i64.wrap (ch' - less) = j1 := by
      rw [IntWalk.i64_in _ (by omega)]
      exact hj1
     have KL : Hid (Cal2 k0 k1) := Lib.hid (by
      rw [← hk0, ← hk1]
      exact HK.out.less lb0 lb1)
     have KM : Hid (Cal2 j0 j1) := Lib.hid (by
      rw [← hj0, ← hj1]
      exact HK'.out.less lb0 lb1)
     have HK0 := Lib.hid hk0
     have HK1 := Lib.hid hk1
     have HJ0 := Lib.hid hj0
     have HJ1 := Lib.hid hj1
     clear hk0 hk1 hj0 hj1
     refine (show (∀ sb : Nat → Value, Code.wp Try.prog _ _ ⟨#[sb 0, sb 1, sb 2, sb 3, sb 4, .pointer (some ⟨(w.heap.size + 1 + 1), 0, none⟩), .bool false, .pointer (some ⟨v8, 0, none⟩), .pointer (some ⟨v9, 0, none⟩), .pointer (some ⟨v10, 0, none⟩), .pointer (some ⟨v11, 0, none⟩), .slice (some ⟨bb10, bf10, none⟩) 4 bc10, .int .i64 0, .int .i64 less, .int .i64 more, .pointer (some ⟨B, 0, none⟩), sb 16, undef, undef, undef, undef, undef, undef, undef, undef, undef, undef, undef, undef, undef, undef, undef, undef, undef, undef, sb 35, sb 36, sb 37, sb 38, sb 39, sb 40, sb 41, sb 42, sb 43, sb 44, sb 45, sb 46, sb 47, sb 48, sb 49, sb 50, sb 51, sb 52, sb 53, sb 54, sb 55, sb 56, sb 57, sb 58, sb 59, sb 60, sb 61, sb 62, sb 63, sb 64, sb 65, sb 66, sb 67, sb 68, sb 69, sb 70, sb 71, sb 72, sb 73, sb 74, undef, undef, undef, undef, undef, undef, undef, undef, undef, undef, undef, undef, undef, undef, undef, undef, undef, undef, undef, undef, undef, undef, undef, undef, undef, undef, undef, undef, undef, undef, undef, undef, undef, undef, undef, undef, undef, undef, undef, undef, undef, undef, undef, undef, undef, undef, undef, undef, undef, undef, undef, undef, undef, undef, undef, undef, undef, undef, undef, undef, undef, undef, undef, undef, undef, undef, undef, undef, undef, undef, undef, undef, undef, undef, undef, undef, undef, undef, undef, undef, undef, undef, undef, undef, undef, undef, undef, undef, undef, undef, undef, undef, undef, undef, undef, undef, undef, undef, undef, undef, undef, undef, undef, undef, undef, undef, undef, undef, undef, undef, undef, undef, undef, undef, undef, undef, undef, undef, undef, undef, undef, undef, undef, undef, undef, undef, undef, undef, undef, undef, undef, undef, undef, undef, undef, undef, undef, undef, undef, undef, undef, undef, undef, undef, undef, undef, undef, undef, undef, undef, undef, undef, undef, undef, undef, undef, undef, undef, undef, undef, undef, undef, undef, undef, undef, undef, undef, undef, undef, undef, undef, undef, undef, undef, undef, undef, undef, undef, undef, undef, undef, undef, undef, undef, undef, undef, undef, undef, undef, undef, undef, undef, undef, undef, undef, undef, undef, undef, undef, undef, undef, undef, undef, undef, undef, undef, undef, undef, undef, undef, undef, undef, undef, undef, undef, undef, undef, undef, undef, undef, undef, undef, undef, undef, undef, undef, undef, undef, undef, undef, undef, undef, undef, undef, undef, undef, undef, undef, undef, undef, undef, undef, undef, undef, undef, undef, undef, undef, undef, undef, undef, undef, undef, undef, undef, undef, undef, undef, undef], []⟩ _) → _ from fun h => h ((fun l : List Value => fun i => l.getD i undef) [_, _, _, _, _, undef, undef, undef, undef, undef, undef, undef, undef, undef, undef, undef, _, undef, undef, undef, undef, undef, undef, undef, undef, undef, undef, undef, undef, undef, undef, undef, undef, undef, undef, _, _, _, _, _, _, _, _, _, _, _, _, _, _, _, _, _, _, _, _, _, _, _, _, _, _, _, _, _, _, _, _, _, _, _, _, _, _, _, _])) ?_
     intro sb
     dsimp only
     refine wp_region_facts 19 [(1, 0), (3, 2), (5, 4), (7, 5), (7, 6), (9, 8), (11, 9), (11, 10), (12, 7), (12, 11), (14, 1), (14, 3), (14, 12), (14, 13), (15, 14), (16, 15), (17, 15), (18, 16)] (fun x => ⟨#[sb 0, sb 1, sb 2, sb 3, sb 4, .pointer (some ⟨(w.heap.size + 1 + 1), 0, none⟩), .bool false, .pointer (some ⟨v8, 0, none⟩), .pointer (some ⟨v9, 0, none⟩), .pointer (some ⟨v10, 0, none⟩), .pointer (some ⟨v11, 0, none⟩), .slice (some ⟨bb10, bf10, none⟩) 4 bc10, .int .i64 0, .int .i64 less, .int .i64 more, .pointer (some ⟨B, 0, none⟩), sb 16, x 18, undef, undef, undef, undef, undef, undef, undef, undef, undef, undef, undef, undef, undef, undef, undef, undef, undef, sb 35, sb 36, sb 37, sb 38, sb 39, sb 40, sb 41, sb 42, sb 43, sb 44, sb 45, sb 46, sb 47, sb 48, sb 49, sb 50, sb 51, sb 52, sb 53, sb 54, sb 55, sb 56, sb 57, sb 58, sb 59, sb 60, sb 61, sb 62, sb 63, sb 64, sb 65, sb 66, sb 67, sb 68, sb 69, sb 70, sb 71, sb 72, sb 73, sb 74, x 15, x 0, x 1, x 2, x 3, x 4, x 5, x 6, x 7, x 8, x 9, x 10, x 11, x 12, x 13, x 14, x 16, x 17, undef, undef, undef, undef, undef, undef, undef, undef, undef, undef, undef, undef, undef, undef, undef, undef, undef, undef, undef, undef, undef, undef, undef, undef, undef, undef, undef, undef, undef, undef, undef, undef, undef, undef, undef, undef, undef, undef, undef, undef, undef, undef, undef, undef, undef, undef, undef, undef, undef, undef, undef, undef, undef, undef, undef, undef, undef, undef, undef, undef, undef, undef, undef, undef, undef, undef, undef, undef, undef, undef, undef, undef, undef, undef, undef, undef, undef, undef, undef, undef, undef, undef, undef, undef, undef, undef, undef, undef, undef, undef, undef, undef, undef, undef, undef, undef, undef, undef, undef, undef, undef, undef, undef, undef, undef, undef, undef, undef, undef, undef, undef, undef, undef, undef, undef, undef, undef, undef, undef, undef, undef, undef, undef, undef, undef, undef, undef, undef, undef, undef, undef, undef, undef, undef, undef, undef, undef, undef, undef, undef, undef, undef, undef, undef, undef, undef, undef, undef, undef, undef, undef, undef, undef, undef, undef, undef, undef, undef, undef, undef, undef, undef, undef, undef, undef, undef, undef, undef, undef, undef, undef, undef, undef, undef, undef, undef, undef, undef, undef, undef, undef, undef, undef, undef, undef, undef, undef, undef, undef, undef, undef, undef, undef, undef, undef, undef, undef, undef, undef, undef, undef, undef, undef, undef, undef, undef, undef, undef, undef, undef, undef, undef, undef, undef, undef, undef, undef, undef, undef, undef, undef, undef, undef, undef, undef, undef, undef, undef, undef, undef, undef, undef, undef, undef, undef, undef, undef, undef, undef, undef, undef], []⟩) (fun _ => undef) [fun _ x => x = .agg #[.int .i64 30, .slice (some ⟨w3, 0, none⟩) 4 lc3, .int .i64 hei, .slice (some ⟨w7, 0, none⟩) 2 lc7, .slice (some ⟨w11, 0, none⟩) 2 lc11, .int .i64 9, .bool o], fun v x => ∃ naa3 nac3 naa7 nac7 naa11 nac11, x = .agg #[.int .i64 30, .slice naa3 4 nac3, .int .i64 hei, .slice naa7 2 nac7, .slice naa11 2 nac11, .int .i64 9, .bool o] ∧ (IRow v naa3 [g0, g1, g2, g3] ∧ IRow v naa7 [t0, t1] ∧ IRow v naa11 [s0, s1]), fun _ x => x = .agg #[.int .i64 30, .slice ma3 4 mc3, .int .i64 hei', .slice ma7 2 mc7, .slice ma11 2 mc11, .int .i64 9, .bool o'], fun v x => ∃ nba3 nbc3 nba7 nbc7 nba11 nbc11, x = .agg #[.int .i64 30, .slice nba3 4 nbc3, .int .i64 hei', .slice nba7 2 nbc7, .slice nba11 2 nbc11, .int .i64 9, .bool o'] ∧ (IRow v nba3 [q0, q1, q2, q3] ∧ IRow v nba7 [u0, u1] ∧ IRow v nba11 [z0, z1]), fun _ x => x = .pointer (some ⟨v10, 0, none⟩), fun _ x => x = .int .i64 cl, fun _ x => x = .int .i64 less, fun _ x => x = .int .i64 k0, fun _ x => x = .pointer (some ⟨v10, 1, none⟩), fun _ x => x = .int .i64 ch, fun _ x => x = .int .i64 less, fun _ x => x = .int .i64 k1, fun _ x => x = .agg #[.int .i64 k0, .int .i64 k1], fun _ x => x = .agg #[.int .i64 cl', .int .i64 ch'], fun v x => ∃ db14 df14 dc14, x = .tuple #[.slice (some ⟨db14, df14, none⟩) 4 dc14, .int .i64 0] ∧ SRow v (some ⟨db14, df14, none⟩) [playX g0 q0 k0 k1 cl' ch', playX g1 q1 k0 k1 cl' ch', playX g2 q2 k0 k1 cl' ch', playX g3 q3 k0 k1 cl' ch'], fun v x => ∃ db15 df15 dc15, x = .tuple #[.slice (some ⟨db15, df15, none⟩) 4 dc15, .int .i64 0] ∧ SRow v (some ⟨db15, df15, none⟩) [playX g0 q0 k0 k1 cl' ch', playX g1 q1 k0 k1 cl' ch', playX g2 q2 k0 k1 cl' ch', playX g3 q3 k0 k1 cl' ch'], fun v x => ∃ db16 df16 dc16, x = .slice (some ⟨db16, df16, none⟩) 4 dc16 ∧ SRow v (some ⟨db16, df16, none⟩) [playX g0 q0 k0 k1 cl' ch', playX g1 q1 k0 k1 cl' ch', playX g2 q2 k0 k1 cl' ch', playX g3 q3 k0 k1 cl' ch'], fun _ x => x = .int .i64 0, fun v x => ∃ db18 df18 dc18, x = .slice (some ⟨db18, df18, none⟩) 4 dc18 ∧ SRow v (some ⟨db18, df18, none⟩) [playX g0 q0 k0 k1 cl' ch', playX g1 q1 k0 k1 cl' ch', playX g2 q2 k0 k1 cl' ch', playX g3 q3 k0 k1 cl' ch']] (by rfl) (by kernel_rfl) (by kernel_rfl) (by kernel_rfl) (stays_cons (Stays.eq _) (stays_cons ((show Stays (fun v x => ∃ naa3 nac3 naa7 nac7 naa11 nac11, x = .agg #[.int .i64 30, .slice naa3 4 nac3, .int .i64 hei, .slice naa7 2 nac7, .slice naa11 2 nac11, .int .i64 9, .bool o] ∧ (IRow v naa3 [g0, g1, g2, g3] ∧ IRow v naa7 [t0, t1] ∧ IRow v naa11 [s0, s1])) from fun v v' x g ⟨a, b, c, d, e, f, h, r1, r2, r3⟩ => ⟨a, b, c, d, e, f, h, r1.grow g, r2.grow g, r3.grow g⟩)) (stays_cons (Stays.eq _) (stays_cons ((show Stays (fun v x => ∃ nba3 nbc3 nba7 nbc7 nba11 nbc11, x = .agg #[.int .i64 30, .slice nba3 4 nbc3, .int .i64 hei', .slice nba7 2 nbc7, .slice nba11 2 nbc11, .int .i64 9, .bool o'] ∧ (IRow v nba3 [q0, q1, q2, q3] ∧ IRow v nba7 [u0, u1] ∧ IRow v nba11 [z0, z1])) from fun v v' x g ⟨a, b, c, d, e, f, h, r1, r2, r3⟩ => ⟨a, b, c, d, e, f, h, r1.grow g, r2.grow g, r3.grow g⟩)) (stays_cons (Stays.eq _) (stays_cons (Stays.eq _) (stays_cons (Stays.eq _) (stays_cons (Stays.eq _) (stays_cons (Stays.eq _) (stays_cons (Stays.eq _) (stays_cons (Stays.eq _) (stays_cons (Stays.eq _) (stays_cons (Stays.eq _) (stays_cons (Stays.eq _) (stays_cons ((show Stays (fun v x => ∃ db14 df14 dc14, x = .tuple #[.slice (some ⟨db14, df14, none⟩) 4 dc14, .int .i64 0] ∧ SRow v (some ⟨db14, df14, none⟩) [playX g0 q0 k0 k1 cl' ch', playX g1 q1 k0 k1 cl' ch', playX g2 q2 k0 k1 cl' ch', playX g3 q3 k0 k1 cl' ch']) from fun v v' x g ⟨a, b, c, h, r⟩ => ⟨a, b, c, h, r.grow g⟩)) (stays_cons ((show Stays (fun v x => ∃ db15 df15 dc15, x = .tuple #[.slice (some ⟨db15, df15, none⟩) 4 dc15, .int .i64 0] ∧ SRow v (some ⟨db15, df15, none⟩) [playX g0 q0 k0 k1 cl' ch', playX g1 q1 k0 k1 cl' ch', playX g2 q2 k0 k1 cl' ch', playX g3 q3 k0 k1 cl' ch']) from fun v v' x g ⟨a, b, c, h, r⟩ => ⟨a, b, c, h, r.grow g⟩)) (stays_cons ((show Stays (fun v x => ∃ db16 df16 dc16, x = .slice (some ⟨db16, df16, none⟩) 4 dc16 ∧ SRow v (some ⟨db16, df16, none⟩) [playX g0 q0 k0 k1 cl' ch', playX g1 q1 k0 k1 cl' ch', playX g2 q2 k0 k1 cl' ch', playX g3 q3 k0 k1 cl' ch']) from fun v v' x g ⟨a, b, c, h, r⟩ => ⟨a, b, c, h, r.grow g⟩)) (stays_cons (Stays.eq _) (stays_cons ((show Stays (fun v x => ∃ db18 df18 dc18, x = .slice (some ⟨db18, df18, none⟩) 4 dc18 ∧ SRow v (some ⟨db18, df18, none⟩) [playX g0 q0 k0 k1 cl' ch', playX g1 q1 k0 k1 cl' ch', playX g2 q2 k0 k1 cl' ch', playX g3 q3 k0 k1 cl' ch']) from fun v v' x g ⟨a, b, c, h, r⟩ => ⟨a, b, c, h, r.grow g⟩)) stays_nil))))))))))))))))))) ?step9 ?fin9
     case step9 => as_aux_lemma =>
      rintro i hi x v gv hd K hK
      have hi8 : i = 0 ∨ i = 1 ∨ i = 2 ∨ i = 3 ∨ i = 4 ∨ i = 5 ∨ i = 6 ∨ i = 7 ∨ i = 8 ∨ i = 9 ∨ i = 10 ∨ i = 11 ∨ i = 12 ∨ i = 13 ∨ i = 14 ∨ i = 15 ∨ i = 16 ∨ i = 17 ∨ i = 18 := by omega
      rcases hi8 with rfl | rfl | rfl | rfl | rfl | rfl | rfl | rfl | rfl | rfl | rfl | rfl | rfl | rfl | rfl | rfl | rfl | rfl | rfl
      ·dsimp only [upd, Nat.reduceBEq, cond_true, cond_false]
       refine wpOp_step rfl (fun K' hK' => ?_)
       rw [if_pos (by rfl)]
       refine wp_load_mid 24 _ rfl B 0 (by rfl) [.int .i64 30, .slice (some ⟨w3, 0, none⟩) 4 lc3, .int .i64 hei, .slice (some ⟨w7, 0, none⟩) 2 lc7, .slice (some ⟨w11, 0, none⟩) 2 lc11, .int .i64 9, .bool o] _ (fun j u hu => by rw [Nat.zero_add]; exact (oV.keep gv).2 j u hu) Try.underlying24 rfl (by kernel_rfl) ?_
       exact hK' _ _ (hK _ _ (Below.refl _ _) (at_of rfl (rfl)))
      ·obtain ⟨x, rfl⟩ := upd_of (show x 0 = .agg #[.int .i64 30, .slice (some ⟨w3, 0, none⟩) 4 lc3, .int .i64 hei, .slice (some ⟨w7, 0, none⟩) 2 lc7, .slice (some ⟨w11, 0, none⟩) 2 lc11, .int .i64 9, .bool o] from hd 0 _ (by simp) rfl)
       dsimp only [upd, Nat.reduceBEq, cond_true, cond_false]
       refine wpOp_step rfl (fun K' hK' => ?_)
       go_simp
       refine (own4_any g0 g1 g2 g3 t0 t1 s0 s1 hei o _ _ _ _ _ _ v (mK.grow gv) (h7.grow gv) (h11.grow gv)).mono ?_
       rintro e v' ⟨w3, b3, w7, b7, w11, b11, rfl, hg, r1, r2, r3⟩
       exact hK' _ _ (hK _ _ hg (at_of rfl (⟨_, _, _, _, _, _, rfl, r1, r2, r3⟩)))
      ·dsimp only [upd, Nat.reduceBEq, cond_true, cond_false]
       refine wpOp_step rfl (fun K' hK' => ?_)
       rw [if_pos (by rfl)]
       refine wp_load_mid 24 _ rfl v9 0 (by rfl) [.int .i64 30, .slice ma3 4 mc3, .int .i64 hei', .slice ma7 2 mc7, .slice ma11 2 mc11, .int .i64 9, .bool o'] _ (fun j u hu => by rw [Nat.zero_add]; exact (oB.keep gv).2 j u hu) Try.underlying24 rfl (by kernel_rfl) ?_
       exact hK' _ _ (hK _ _ (Below.refl _ _) (at_of rfl (rfl)))
      ·obtain ⟨x, rfl⟩ := upd_of (show x 2 = .agg #[.int .i64 30, .slice ma3 4 mc3, .int .i64 hei', .slice ma7 2 mc7, .slice ma11 2 mc11, .int .i64 9, .bool o'] from hd 2 _ (by simp) rfl)
       dsimp only [upd, Nat.reduceBEq, cond_true, cond_false]
       refine wpOp_step rfl (fun K' hK' => ?_)
       go_simp
       refine (own4_any q0 q1 q2 q3 u0 u1 z0 z1 hei' o' _ _ _ _ _ _ v (j3.grow gv) (j7.grow gv) (j11.grow gv)).mono ?_
       rintro e v' ⟨w3, b3, w7, b7, w11, b11, rfl, hg, r1, r2, r3⟩
       exact hK' _ _ (hK _ _ hg (at_of rfl (⟨_, _, _, _, _, _, rfl, r1, r2, r3⟩)))
      ·dsimp only [upd, Nat.reduceBEq, cond_true, cond_false]
       refine wpOp_step rfl (fun K' hK' => ?_)
       go_simp
       exact hK' _ _ (hK _ _ (Below.refl _ _) (at_of rfl (rfl)))
      ·obtain ⟨x, rfl⟩ := upd_of (show x 4 = .pointer (some ⟨v10, 0, none⟩) from hd 4 _ (by simp) rfl)
       dsimp only [upd, Nat.reduceBEq, cond_true, cond_false]
       refine wpOp_step rfl (fun K' hK' => ?_)
       have q := (oA.keep gv).2 0 _ rfl
       go_simp
       exact hK' _ _ (hK _ _ (Below.refl _ _) (at_of rfl (rfl)))
      ·dsimp only [upd, Nat.reduceBEq, cond_true, cond_false]
       refine wpOp_step rfl (fun K' hK' => ?_)
       go_simp
       exact hK' _ _ (hK _ _ (Below.refl _ _) (at_of rfl (rfl)))
      ·obtain ⟨x, rfl⟩ := upd_of (show x 5 = .int .i64 cl from hd 5 _ (by simp) rfl)
       obtain ⟨x, rfl⟩ := upd_of (show x 6 = .int .i64 less from hd 6 _ (by simp) rfl)
       dsimp only [upd, Nat.reduceBEq, cond_true, cond_false]
       refine wpOp_step rfl (fun K' hK' => ?_)
       go_simp
       exact hK' _ _ (hK _ _ (Below.refl _ _) (at_of rfl (rfl)))
      ·dsimp only [upd, Nat.reduceBEq, cond_true, cond_false]
       refine wpOp_step rfl (fun K' hK' => ?_)
       go_simp
       exact hK' _ _ (hK _ _ (Below.refl _ _) (at_of rfl (rfl)))
      ·obtain ⟨x, rfl⟩ := upd_of (show x 8 = .pointer (some ⟨v10, 1, none⟩) from hd 8 _ (by simp) rfl)
       dsimp only [upd, Nat.reduceBEq, cond_true, cond_false]
       refine wpOp_step rfl (fun K' hK' => ?_)
       have q := (oA.keep gv).2 1 _ rfl
       go_simp
       exact hK' _ _ (hK _ _ (Below.refl _ _) (at_of rfl (rfl)))
      ·dsimp only [upd, Nat.reduceBEq, cond_true, cond_false]
       refine wpOp_step rfl (fun K' hK' => ?_)
       go_simp
       exact hK' _ _ (hK _ _ (Below.refl _ _) (at_of rfl (rfl)))
      ·obtain ⟨x, rfl⟩ := upd_of (show x 9 = .int .i64 ch from hd 9 _ (by simp) rfl)
       obtain ⟨x, rfl⟩ := upd_of (show x 10 = .int .i64 less from hd 10 _ (by simp) rfl)
       dsimp only [upd, Nat.reduceBEq, cond_true, cond_false]
       refine wpOp_step rfl (fun K' hK' => ?_)
       go_simp
       exact hK' _ _ (hK _ _ (Below.refl _ _) (at_of rfl (rfl)))
      ·obtain ⟨x, rfl⟩ := upd_of (show x 7 = .int .i64 k0 from hd 7 _ (by simp) rfl)
       obtain ⟨x, rfl⟩ := upd_of (show x 11 = .int .i64 k1 from hd 11 _ (by simp) rfl)
       dsimp only [upd, Nat.reduceBEq, cond_true, cond_false]
       refine wpOp_step rfl (fun K' hK' => ?_)
       go_simp
       refine (span02_any k0 k1 v).mono ?_
       rintro e v' ⟨rfl, hg⟩
       exact hK' _ _ (hK _ _ hg (at_of rfl (rfl)))
      ·dsimp only [upd, Nat.reduceBEq, cond_true, cond_false]
       refine wpOp_step rfl (fun K' hK' => ?_)
       rw [if_pos (by rfl)]
       refine wp_load_mid 37 _ rfl v11 0 (by rfl) [.int .i64 cl', .int .i64 ch'] _ (fun j u hu => by rw [Nat.zero_add]; exact (oC.keep gv).2 j u hu) Try.underlying37 rfl (by kernel_rfl) ?_
       exact hK' _ _ (hK _ _ (Below.refl _ _) (at_of rfl (rfl)))
      ·obtain ⟨naa3, nac3, naa7, nac7, naa11, nac11, e1, r1⟩ := hd 1 _ (by simp) rfl
       obtain ⟨x, rfl⟩ := upd_of (show x 1 = .agg #[.int .i64 30, .slice naa3 4 nac3, .int .i64 hei, .slice naa7 2 nac7, .slice naa11 2 nac11, .int .i64 9, .bool o] from e1)
       obtain ⟨nba3, nbc3, nba7, nbc7, nba11, nbc11, e3, r3⟩ := hd 3 _ (by simp) rfl
       obtain ⟨x, rfl⟩ := upd_of (show x 3 = .agg #[.int .i64 30, .slice nba3 4 nbc3, .int .i64 hei', .slice nba7 2 nbc7, .slice nba11 2 nbc11, .int .i64 9, .bool o'] from e3)
       obtain ⟨x, rfl⟩ := upd_of (show x 12 = .agg #[.int .i64 k0, .int .i64 k1] from hd 12 _ (by simp) rfl)
       obtain ⟨x, rfl⟩ := upd_of (show x 13 = .agg #[.int .i64 cl', .int .i64 ch'] from hd 13 _ (by simp) rfl)
       dsimp only [upd, Nat.reduceBEq, cond_true, cond_false]
       refine wpOp_step rfl (fun K' hK' => ?_)
       go_simp
       refine (play4_any g0 g1 g2 g3 t0 t1 s0 s1 hei o q0 q1 q2 q3 u0 u1 z0 z1 hei' o' k0 k1 cl' ch' HG.out HB.out KL.out KC.out _ _ _ _ _ _ _ _ _ _ _ _ v r1.1 r1.2.1 r1.2.2 r3.1 r3.2.1 r3.2.2).mono ?_
       rintro e v' ⟨b9, f9, c9, rfl, hg, r⟩
       exact hK' _ _ (hK _ _ hg (at_of rfl (⟨_, _, _, rfl, r⟩)))
      ·obtain ⟨db14, df14, dc14, e14, r14⟩ := hd 14 _ (by simp) rfl
       obtain ⟨x, rfl⟩ := upd_of (show x 14 = .tuple #[.slice (some ⟨db14, df14, none⟩) 4 dc14, .int .i64 0] from e14)
       dsimp only [upd, Nat.reduceBEq, cond_true, cond_false]
       refine wpOp_step rfl (fun K' hK' => ?_)
       go_simp
       exact hK' _ _ (hK _ _ (Below.refl _ _) (at_of rfl (⟨_, _, _, rfl, r14⟩)))
      ·obtain ⟨db15, df15, dc15, e15, r15⟩ := hd 15 _ (by simp) rfl
       obtain ⟨x, rfl⟩ := upd_of (show x 15 = .tuple #[.slice (some ⟨db15, df15, none⟩) 4 dc15, .int .i64 0] from e15)
       dsimp only [upd, Nat.reduceBEq, cond_true, cond_false]
       refine wpOp_step rfl (fun K' hK' => ?_)
       go_simp
       exact hK' _ _ (hK _ _ (Below.refl _ _) (at_of rfl (⟨_, _, _, rfl, r15⟩)))
      ·obtain ⟨db15, df15, dc15, e15, r15⟩ := hd 15 _ (by simp) rfl
       obtain ⟨x, rfl⟩ := upd_of (show x 15 = .tuple #[.slice (some ⟨db15, df15, none⟩) 4 dc15, .int .i64 0] from e15)
       dsimp only [upd, Nat.reduceBEq, cond_true, cond_false]
       refine wpOp_step rfl (fun K' hK' => ?_)
       go_simp
       exact hK' _ _ (hK _ _ (Below.refl _ _) (at_of rfl (rfl)))
      ·obtain ⟨db16, df16, dc16, e16, r16⟩ := hd 16 _ (by simp) rfl
       obtain ⟨x, rfl⟩ := upd_of (show x 16 = .slice (some ⟨db16, df16, none⟩) 4 dc16 from e16)
       dsimp only [upd, Nat.reduceBEq, cond_true, cond_false]
       refine wpOp_step rfl (fun K' hK' => ?_)
       go_simp
       exact hK' _ _ (hK _ _ (Below.refl _ _) (at_of rfl (⟨_, _, _, rfl, r16⟩)))
     case fin9 =>
      rintro x v gv hd
      obtain ⟨x, rfl⟩ := upd_of (show x 17 = .int .i64 0 from hd 17 _ (by omega) rfl)
      obtain ⟨db18, df18, dc18, e18, r18⟩ := hd 18 _ (by omega) rfl
      obtain ⟨x, rfl⟩ := upd_of (show x 18 = .slice (some ⟨db18, df18, none⟩) 4 dc18 from e18)
      clear hd
      show wpList Try.prog _ _ (List.drop 19 _) (⟨#[_, _, _, _, _, _, _, _, _, _, _, _, _, _, _, _, _, .slice (some ⟨db18, df18, none⟩) 4 dc18, _, _, _, _, _, _, _, _, _, _, _, _, _, _, _, _, _, _, _, _, _, _, _, _, _, _, _, _, _, _, _, _, _, _, _, _, _, _, _, _, _, _, _, _, _, _, _, _, _, _, _, _, _, _, _, _, _, x 15, x 0, x 1, x 2, x 3, x 4, x 5, x 6, x 7, x 8, x 9, x 10, x 11, x 12, x 13, x 14, x 16, .int .i64 0, _, _, _, _, _, _, _, _, _, _, _, _, _, _, _, _, _, _, _, _, _, _, _, _, _, _, _, _, _, _, _, _, _, _, _, _, _, _, _, _, _, _, _, _, _, _, _, _, _, _, _, _, _, _, _, _, _, _, _, _, _, _, _, _, _, _, _, _, _, _, _, _, _, _, _, _, _, _, _, _, _, _, _, _, _, _, _, _, _, _, _, _, _, _, _, _, _, _, _, _, _, _, _, _, _, _, _, _, _, _, _, _, _, _, _, _, _, _, _, _, _, _, _, _, _, _, _, _, _, _, _, _, _, _, _, _, _, _, _, _, _, _, _, _, _, _, _, _, _, _, _, _, _, _, _, _, _, _, _, _, _, _, _, _, _, _, _, _, _, _, _, _, _, _, _, _, _, _, _, _, _, _, _, _, _, _, _, _, _, _, _, _, _, _, _, _, _, _, _, _, _, _, _, _, _, _, _, _, _, _, _, _, _, _, _, _, _, _, _, _, _, _, _, _, _, _, _, _, _, _, _, _, _, _, _, _, _, _, _, _, _], []⟩ : Act) v
      simp only [List.drop_succ_cons, List.drop_zero]
      replace gU := gU.tr gv
      replace h3 := h3.keep gv
      replace oL := oL.keep gv
      replace oB := oB.keep gv
      replace oA := oA.keep gv
      replace oC := oC.keep gv
      replace r3 := r3.grow gv
      replace r7 := r7.grow gv
      replace r11 := r11.grow gv
      replace j3 := j3.grow gv
      replace j7 := j7.grow gv
      replace j11 := j11.grow gv
      replace rL := rL.grow gv
      replace oV := oV.keep gv
      replace mK := mK.grow gv
      replace h7 := h7.grow gv
      replace h11 := h11.grow gv
      have rM := r18
      clear r18 e18 gv oV mK h7 h11
      go_upto_region 10 with fail
      refine (show (∀ sc : Nat → Value, Code.wp Try.prog _ _ ⟨#[sc 0, sc 1, sc 2, sc 3, sc 4, .pointer (some ⟨(w.heap.size + 1 + 1), 0, none⟩), .bool false, .pointer (some ⟨v8, 0, none⟩), .pointer (some ⟨v9, 0, none⟩), .pointer (some ⟨v10, 0, none⟩), .pointer (some ⟨v11, 0, none⟩), .slice (some ⟨bb10, bf10, none⟩) 4 bc10, .int .i64 0, .int .i64 less, .int .i64 more, .pointer (some ⟨B, 0, none⟩), sc 16, .slice (some ⟨db18, df18, none⟩) 4 dc18, .int .i64 0, undef, undef, undef, undef, undef, undef, undef, undef, undef, undef, undef, undef, undef, undef, undef, undef, sc 35, sc 36, sc 37, sc 38, sc 39, sc 40, sc 41, sc 42, sc 43, sc 44, sc 45, sc 46, sc 47, sc 48, sc 49, sc 50, sc 51, sc 52, sc 53, sc 54, sc 55, sc 56, sc 57, sc 58, sc 59, sc 60, sc 61, sc 62, sc 63, sc 64, sc 65, sc 66, sc 67, sc 68, sc 69, sc 70, sc 71, sc 72, sc 73, sc 74, sc 75, sc 76, sc 77, sc 78, sc 79, sc 80, sc 81, sc 82, sc 83, sc 84, sc 85, sc 86, sc 87, sc 88, sc 89, sc 90, sc 91, sc 92, undef, undef, undef, undef, undef, undef, undef, undef, undef, undef, undef, undef, undef, undef, undef, undef, undef, undef, undef, undef, undef, undef, undef, undef, undef, undef, undef, undef, undef, undef, undef, undef, undef, undef, undef, undef, undef, undef, undef, undef, undef, undef, undef, undef, undef, undef, undef, undef, undef, undef, undef, undef, undef, undef, undef, undef, undef, undef, undef, undef, undef, undef, undef, undef, undef, undef, undef, undef, undef, undef, undef, undef, undef, undef, undef, undef, undef, undef, undef, undef, undef, undef, undef, undef, undef, undef, undef, undef, undef, undef, undef, undef, undef, undef, undef, undef, undef, undef, undef, undef, undef, undef, undef, undef, undef, undef, undef, undef, undef, undef, undef, undef, undef, undef, undef, undef, undef, undef, undef, undef, undef, undef, undef, undef, undef, undef, undef, undef, undef, undef, undef, undef, undef, undef, undef, undef, undef, undef, undef, undef, undef, undef, undef, undef, undef, undef, undef, undef, undef, undef, undef, undef, undef, undef, undef, undef, undef, undef, undef, undef, undef, undef, undef, undef, undef, undef, undef, undef, undef, undef, undef, undef, undef, undef, undef, undef, undef, undef, undef, undef, undef, undef, undef, undef, undef, undef, undef, undef, undef, undef, undef, undef, undef, undef, undef, undef, undef, undef, undef, undef, undef, undef, undef, undef, undef, undef, undef, undef, undef, undef, undef, undef, undef, undef, undef, undef, undef, undef, undef, undef, undef, undef, undef, undef, undef, undef, undef, undef, undef, undef, undef, undef, undef, undef, undef, undef, undef, undef, undef, undef, undef], []⟩ _) → _ from fun h => h ((fun l : List Value => fun i => l.getD i undef) [_, _, _, _, _, undef, undef, undef, undef, undef, undef, undef, undef, undef, undef, undef, _, undef, undef, undef, undef, undef, undef, undef, undef, undef, undef, undef, undef, undef, undef, undef, undef, undef, undef, _, _, _, _, _, _, _, _, _, _, _, _, _, _, _, _, _, _, _, _, _, _, _, _, _, _, _, _, _, _, _, _, _, _, _, _, _, _, _, _, _, _, _, _, _, _, _, _, _, _, _, _, _, _, _, _, _, _])) ?_
      intro sc
      dsimp only
      refine wp_region_facts 19 [(1, 0), (3, 2), (6, 5), (8, 6), (8, 7), (10, 9), (12, 10), (12, 11), (13, 8), (13, 12), (14, 1), (14, 3), (14, 4), (14, 13), (15, 14), (16, 15), (17, 15), (18, 16)] (fun x => ⟨#[sc 0, sc 1, sc 2, sc 3, sc 4, .pointer (some ⟨(w.heap.size + 1 + 1), 0, none⟩), .bool false, .pointer (some ⟨v8, 0, none⟩), .pointer (some ⟨v9, 0, none⟩), .pointer (some ⟨v10, 0, none⟩), .pointer (some ⟨v11, 0, none⟩), .slice (some ⟨bb10, bf10, none⟩) 4 bc10, .int .i64 0, .int .i64 less, .int .i64 more, .pointer (some ⟨B, 0, none⟩), sc 16, .slice (some ⟨db18, df18, none⟩) 4 dc18, .int .i64 0, x 18, undef, undef, undef, undef, undef, undef, undef, undef, undef, undef, undef, undef, undef, undef, undef, sc 35, sc 36, sc 37, sc 38, sc 39, sc 40, sc 41, sc 42, sc 43, sc 44, sc 45, sc 46, sc 47, sc 48, sc 49, sc 50, sc 51, sc 52, sc 53, sc 54, sc 55, sc 56, sc 57, sc 58, sc 59, sc 60, sc 61, sc 62, sc 63, sc 64, sc 65, sc 66, sc 67, sc 68, sc 69, sc 70, sc 71, sc 72, sc 73, sc 74, sc 75, sc 76, sc 77, sc 78, sc 79, sc 80, sc 81, sc 82, sc 83, sc 84, sc 85, sc 86, sc 87, sc 88, sc 89, sc 90, sc 91, sc 92, x 15, x 0, x 1, x 2, x 3, x 4, x 5, x 6, x 7, x 8, x 9, x 10, x 11, x 12, x 13, x 14, x 16, x 17, undef, undef, undef, undef, undef, undef, undef, undef, undef, undef, undef, undef, undef, undef, undef, undef, undef, undef, undef, undef, undef, undef, undef, undef, undef, undef, undef, undef, undef, undef, undef, undef, undef, undef, undef, undef, undef, undef, undef, undef, undef, undef, undef, undef, undef, undef, undef, undef, undef, undef, undef, undef, undef, undef, undef, undef, undef, undef, undef, undef, undef, undef, undef, undef, undef, undef, undef, undef, undef, undef, undef, undef, undef, undef, undef, undef, undef, undef, undef, undef, undef, undef, undef, undef, undef, undef, undef, undef, undef, undef, undef, undef, undef, undef, undef, undef, undef, undef, undef, undef, undef, undef, undef, undef, undef, undef, undef, undef, undef, undef, undef, undef, undef, undef, undef, undef, undef, undef, undef, undef, undef, undef, undef, undef, undef, undef, undef, undef, undef, undef, undef, undef, undef, undef, undef, undef, undef, undef, undef, undef, undef, undef, undef, undef, undef, undef, undef, undef, undef, undef, undef, undef, undef, undef, undef, undef, undef, undef, undef, undef, undef, undef, undef, undef, undef, undef, undef, undef, undef, undef, undef, undef, undef, undef, undef, undef, undef, undef, undef, undef, undef, undef, undef, undef, undef, undef, undef, undef, undef, undef, undef, undef, undef, undef, undef, undef, undef, undef, undef, undef, undef, undef, undef, undef, undef, undef, undef, undef, undef, undef, undef, undef, undef, undef, undef, undef, undef, undef, undef, undef, undef, undef, undef], []⟩) (fun _ => undef) [fun _ x => x = .agg #[.int .i64 30, .slice ka3 4 kc3, .int .i64 hei, .slice ka7 2 kc7, .slice ka11 2 kc11, .int .i64 9, .bool o], fun v x => ∃ naa3 nac3 naa7 nac7 naa11 nac11, x = .agg #[.int .i64 30, .slice naa3 4 nac3, .int .i64 hei, .slice naa7 2 nac7, .slice naa11 2 nac11, .int .i64 9, .bool o] ∧ (IRow v naa3 [a0, a1, a2, a3] ∧ IRow v naa7 [t0, t1] ∧ IRow v naa11 [s0, s1]), fun _ x => x = .agg #[.int .i64 30, .slice ma3 4 mc3, .int .i64 hei', .slice ma7 2 mc7, .slice ma11 2 mc11, .int .i64 9, .bool o'], fun v x => ∃ nba3 nbc3 nba7 nbc7 nba11 nbc11, x = .agg #[.int .i64 30, .slice nba3 4 nbc3, .int .i64 hei', .slice nba7 2 nbc7, .slice nba11 2 nbc11, .int .i64 9, .bool o'] ∧ (IRow v nba3 [q0, q1, q2, q3] ∧ IRow v nba7 [u0, u1] ∧ IRow v nba11 [z0, z1]), fun _ x => x = .agg #[.int .i64 cl, .int .i64 ch], fun _ x => x = .pointer (some ⟨v11, 0, none⟩), fun _ x => x = .int .i64 cl', fun _ x => x = .int .i64 less, fun _ x => x = .int .i64 j0, fun _ x => x = .pointer (some ⟨v11, 1, none⟩), fun _ x => x = .int .i64 ch', fun _ x => x = .int .i64 less, fun _ x => x = .int .i64 j1, fun _ x => x = .agg #[.int .i64 j0, .int .i64 j1], fun v x => ∃ nb14 nf14 nc14, x = .tuple #[.slice (some ⟨nb14, nf14, none⟩) 4 nc14, .int .i64 0] ∧ SRow v (some ⟨nb14, nf14, none⟩) [playX a0 q0 cl ch j0 j1, playX a1 q1 cl ch j0 j1, playX a2 q2 cl ch j0 j1, playX a3 q3 cl ch j0 j1], fun v x => ∃ nb15 nf15 nc15, x = .tuple #[.slice (some ⟨nb15, nf15, none⟩) 4 nc15, .int .i64 0] ∧ SRow v (some ⟨nb15, nf15, none⟩) [playX a0 q0 cl ch j0 j1, playX a1 q1 cl ch j0 j1, playX a2 q2 cl ch j0 j1, playX a3 q3 cl ch j0 j1], fun v x => ∃ nb16 nf16 nc16, x = .slice (some ⟨nb16, nf16, none⟩) 4 nc16 ∧ SRow v (some ⟨nb16, nf16, none⟩) [playX a0 q0 cl ch j0 j1, playX a1 q1 cl ch j0 j1, playX a2 q2 cl ch j0 j1, playX a3 q3 cl ch j0 j1], fun _ x => x = .int .i64 0, fun v x => ∃ nb18 nf18 nc18, x = .slice (some ⟨nb18, nf18, none⟩) 4 nc18 ∧ SRow v (some ⟨nb18, nf18, none⟩) [playX a0 q0 cl ch j0 j1, playX a1 q1 cl ch j0 j1, playX a2 q2 cl ch j0 j1, playX a3 q3 cl ch j0 j1]] (by rfl) (by kernel_rfl) (by kernel_rfl) (by kernel_rfl) (stays_cons (Stays.eq _) (stays_cons ((show Stays (fun v x => ∃ naa3 nac3 naa7 nac7 naa11 nac11, x = .agg #[.int .i64 30, .slice naa3 4 nac3, .int .i64 hei, .slice naa7 2 nac7, .slice naa11 2 nac11, .int .i64 9, .bool o] ∧ (IRow v naa3 [a0, a1, a2, a3] ∧ IRow v naa7 [t0, t1] ∧ IRow v naa11 [s0, s1])) from fun v v' x g ⟨a, b, c, d, e, f, h, r1, r2, r3⟩ => ⟨a, b, c, d, e, f, h, r1.grow g, r2.grow g, r3.grow g⟩)) (stays_cons (Stays.eq _) (stays_cons ((show Stays (fun v x => ∃ nba3 nbc3 nba7 nbc7 nba11 nbc11, x = .agg #[.int .i64 30, .slice nba3 4 nbc3, .int .i64 hei', .slice nba7 2 nbc7, .slice nba11 2 nbc11, .int .i64 9, .bool o'] ∧ (IRow v nba3 [q0, q1, q2, q3] ∧ IRow v nba7 [u0, u1] ∧ IRow v nba11 [z0, z1])) from fun v v' x g ⟨a, b, c, d, e, f, h, r1, r2, r3⟩ => ⟨a, b, c, d, e, f, h, r1.grow g, r2.grow g, r3.grow g⟩)) (stays_cons (Stays.eq _) (stays_cons (Stays.eq _) (stays_cons (Stays.eq _) (stays_cons (Stays.eq _) (stays_cons (Stays.eq _) (stays_cons (Stays.eq _) (stays_cons (Stays.eq _) (stays_cons (Stays.eq _) (stays_cons (Stays.eq _) (stays_cons (Stays.eq _) (stays_cons ((show Stays (fun v x => ∃ nb14 nf14 nc14, x = .tuple #[.slice (some ⟨nb14, nf14, none⟩) 4 nc14, .int .i64 0] ∧ SRow v (some ⟨nb14, nf14, none⟩) [playX a0 q0 cl ch j0 j1, playX a1 q1 cl ch j0 j1, playX a2 q2 cl ch j0 j1, playX a3 q3 cl ch j0 j1]) from fun v v' x g ⟨a, b, c, h, r⟩ => ⟨a, b, c, h, r.grow g⟩)) (stays_cons ((show Stays (fun v x => ∃ nb15 nf15 nc15, x = .tuple #[.slice (some ⟨nb15, nf15, none⟩) 4 nc15, .int .i64 0] ∧ SRow v (some ⟨nb15, nf15, none⟩) [playX a0 q0 cl ch j0 j1, playX a1 q1 cl ch j0 j1, playX a2 q2 cl ch j0 j1, playX a3 q3 cl ch j0 j1]) from fun v v' x g ⟨a, b, c, h, r⟩ => ⟨a, b, c, h, r.grow g⟩)) (stays_cons ((show Stays (fun v x => ∃ nb16 nf16 nc16, x = .slice (some ⟨nb16, nf16, none⟩) 4 nc16 ∧ SRow v (some ⟨nb16, nf16, none⟩) [playX a0 q0 cl ch j0 j1, playX a1 q1 cl ch j0 j1, playX a2 q2 cl ch j0 j1, playX a3 q3 cl ch j0 j1]) from fun v v' x g ⟨a, b, c, h, r⟩ => ⟨a, b, c, h, r.grow g⟩)) (stays_cons (Stays.eq _) (stays_cons ((show Stays (fun v x => ∃ nb18 nf18 nc18, x = .slice (some ⟨nb18, nf18, none⟩) 4 nc18 ∧ SRow v (some ⟨nb18, nf18, none⟩) [playX a0 q0 cl ch j0 j1, playX a1 q1 cl ch j0 j1, playX a2 q2 cl ch j0 j1, playX a3 q3 cl ch j0 j1]) from fun v v' x g ⟨a, b, c, h, r⟩ => ⟨a, b, c, h, r.grow g⟩)) stays_nil))))))))))))))))))) ?step10 ?fin10
      case step10 => as_aux_lemma =>
       rintro i hi x v gv hd K hK
       have hi8 : i = 0 ∨ i = 1 ∨ i = 2 ∨ i = 3 ∨ i = 4 ∨ i = 5 ∨ i = 6 ∨ i = 7 ∨ i = 8 ∨ i = 9 ∨ i = 10 ∨ i = 11 ∨ i = 12 ∨ i = 13 ∨ i = 14 ∨ i = 15 ∨ i = 16 ∨ i = 17 ∨ i = 18 := by omega
       rcases hi8 with rfl | rfl | rfl | rfl | rfl | rfl | rfl | rfl | rfl | rfl | rfl | rfl | rfl | rfl | rfl | rfl | rfl | rfl | rfl
       ·dsimp only [upd, Nat.reduceBEq, cond_true, cond_false]
        refine wpOp_step rfl (fun K' hK' => ?_)
        rw [if_pos (by rfl)]
        refine wp_load_mid 24 _ rfl v8 0 (by rfl) [.int .i64 30, .slice ka3 4 kc3, .int .i64 hei, .slice ka7 2 kc7, .slice ka11 2 kc11, .int .i64 9, .bool o] _ (fun j u hu => by rw [Nat.zero_add]; exact (oL.keep gv).2 j u hu) Try.underlying24 rfl (by kernel_rfl) ?_
        exact hK' _ _ (hK _ _ (Below.refl _ _) (at_of rfl (rfl)))
       ·obtain ⟨x, rfl⟩ := upd_of (show x 0 = .agg #[.int .i64 30, .slice ka3 4 kc3, .int .i64 hei, .slice ka7 2 kc7, .slice ka11 2 kc11, .int .i64 9, .bool o] from hd 0 _ (by simp) rfl)
        dsimp only [upd, Nat.reduceBEq, cond_true, cond_false]
        refine wpOp_step rfl (fun K' hK' => ?_)
        go_simp
        refine (own4_any a0 a1 a2 a3 t0 t1 s0 s1 hei o _ _ _ _ _ _ v (r3.grow gv) (r7.grow gv) (r11.grow gv)).mono ?_
        rintro e v' ⟨w3, b3, w7, b7, w11, b11, rfl, hg, r1, r2, r3⟩
        exact hK' _ _ (hK _ _ hg (at_of rfl (⟨_, _, _, _, _, _, rfl, r1, r2, r3⟩)))
       ·dsimp only [upd, Nat.reduceBEq, cond_true, cond_false]
        refine wpOp_step rfl (fun K' hK' => ?_)
        rw [if_pos (by rfl)]
        refine wp_load_mid 24 _ rfl v9 0 (by rfl) [.int .i64 30, .slice ma3 4 mc3, .int .i64 hei', .slice ma7 2 mc7, .slice ma11 2 mc11, .int .i64 9, .bool o'] _ (fun j u hu => by rw [Nat.zero_add]; exact (oB.keep gv).2 j u hu) Try.underlying24 rfl (by kernel_rfl) ?_
        exact hK' _ _ (hK _ _ (Below.refl _ _) (at_of rfl (rfl)))
       ·obtain ⟨x, rfl⟩ := upd_of (show x 2 = .agg #[.int .i64 30, .slice ma3 4 mc3, .int .i64 hei', .slice ma7 2 mc7, .slice ma11 2 mc11, .int .i64 9, .bool o'] from hd 2 _ (by simp) rfl)
        dsimp only [upd, Nat.reduceBEq, cond_true, cond_false]
        refine wpOp_step rfl (fun K' hK' => ?_)
        go_simp
        refine (own4_any q0 q1 q2 q3 u0 u1 z0 z1 hei' o' _ _ _ _ _ _ v (j3.grow gv) (j7.grow gv) (j11.grow gv)).mono ?_
        rintro e v' ⟨w3, b3, w7, b7, w11, b11, rfl, hg, r1, r2, r3⟩
        exact hK' _ _ (hK _ _ hg (at_of rfl (⟨_, _, _, _, _, _, rfl, r1, r2, r3⟩)))
       ·dsimp only [upd, Nat.reduceBEq, cond_true, cond_false]
        refine wpOp_step rfl (fun K' hK' => ?_)
        rw [if_pos (by rfl)]
        refine wp_load_mid 37 _ rfl v10 0 (by rfl) [.int .i64 cl, .int .i64 ch] _ (fun j u hu => by rw [Nat.zero_add]; exact (oA.keep gv).2 j u hu) Try.underlying37 rfl (by kernel_rfl) ?_
        exact hK' _ _ (hK _ _ (Below.refl _ _) (at_of rfl (rfl)))
       ·dsimp only [upd, Nat.reduceBEq, cond_true, cond_false]
        refine wpOp_step rfl (fun K' hK' => ?_)
        go_simp
        exact hK' _ _ (hK _ _ (Below.refl _ _) (at_of rfl (rfl)))
       ·obtain ⟨x, rfl⟩ := upd_of (show x 5 = .pointer (some ⟨v11, 0, none⟩) from hd 5 _ (by simp) rfl)
        dsimp only [upd, Nat.reduceBEq, cond_true, cond_false]
        refine wpOp_step rfl (fun K' hK' => ?_)
        have q := (oC.keep gv).2 0 _ rfl
        go_simp
        exact hK' _ _ (hK _ _ (Below.refl _ _) (at_of rfl (rfl)))
       ·dsimp only [upd, Nat.reduceBEq, cond_true, cond_false]
        refine wpOp_step rfl (fun K' hK' => ?_)
        go_simp
        exact hK' _ _ (hK _ _ (Below.refl _ _) (at_of rfl (rfl)))
       ·obtain ⟨x, rfl⟩ := upd_of (show x 6 = .int .i64 cl' from hd 6 _ (by simp) rfl)
        obtain ⟨x, rfl⟩ := upd_of (show x 7 = .int .i64 less from hd 7 _ (by simp) rfl)
        dsimp only [upd, Nat.reduceBEq, cond_true, cond_false]
        refine wpOp_step rfl (fun K' hK' => ?_)
        go_simp
        exact hK' _ _ (hK _ _ (Below.refl _ _) (at_of rfl (rfl)))
       ·dsimp only [upd, Nat.reduceBEq, cond_true, cond_false]
        refine wpOp_step rfl (fun K' hK' => ?_)
        go_simp
        exact hK' _ _ (hK _ _ (Below.refl _ _) (at_of rfl (rfl)))
       ·obtain ⟨x, rfl⟩ := upd_of (show x 9 = .pointer (some ⟨v11, 1, none⟩) from hd 9 _ (by simp) rfl)
        dsimp only [upd, Nat.reduceBEq, cond_true, cond_false]
        refine wpOp_step rfl (fun K' hK' => ?_)
        have q := (oC.keep gv).2 1 _ rfl
        go_simp
        exact hK' _ _ (hK _ _ (Below.refl _ _) (at_of rfl (rfl)))
       ·dsimp only [upd, Nat.reduceBEq, cond_true, cond_false]
        refine wpOp_step rfl (fun K' hK' => ?_)
        go_simp
        exact hK' _ _ (hK _ _ (Below.refl _ _) (at_of rfl (rfl)))
       ·obtain ⟨x, rfl⟩ := upd_of (show x 10 = .int .i64 ch' from hd 10 _ (by simp) rfl)
        obtain ⟨x, rfl⟩ := upd_of (show x 11 = .int .i64 less from hd 11 _ (by simp) rfl)
        dsimp only [upd, Nat.reduceBEq, cond_true, cond_false]
        refine wpOp_step rfl (fun K' hK' => ?_)
        go_simp
        exact hK' _ _ (hK _ _ (Below.refl _ _) (at_of rfl (rfl)))
       ·obtain ⟨x, rfl⟩ := upd_of (show x 8 = .int .i64 j0 from hd 8 _ (by simp) rfl)
        obtain ⟨x, rfl⟩ := upd_of (show x 12 = .int .i64 j1 from hd 12 _ (by simp) rfl)
        dsimp only [upd, Nat.reduceBEq, cond_true, cond_false]
        refine wpOp_step rfl (fun K' hK' => ?_)
        go_simp
        refine (span02_any j0 j1 v).mono ?_
        rintro e v' ⟨rfl, hg⟩
        exact hK' _ _ (hK _ _ hg (at_of rfl (rfl)))
       ·obtain ⟨naa3, nac3, naa7, nac7, naa11, nac11, e1, r1⟩ := hd 1 _ (by simp) rfl
        obtain ⟨x, rfl⟩ := upd_of (show x 1 = .agg #[.int .i64 30, .slice naa3 4 nac3, .int .i64 hei, .slice naa7 2 nac7, .slice naa11 2 nac11, .int .i64 9, .bool o] from e1)
        obtain ⟨nba3, nbc3, nba7, nbc7, nba11, nbc11, e3, r3⟩ := hd 3 _ (by simp) rfl
        obtain ⟨x, rfl⟩ := upd_of (show x 3 = .agg #[.int .i64 30, .slice nba3 4 nbc3, .int .i64 hei', .slice nba7 2 nbc7, .slice nba11 2 nbc11, .int .i64 9, .bool o'] from e3)
        obtain ⟨x, rfl⟩ := upd_of (show x 4 = .agg #[.int .i64 cl, .int .i64 ch] from hd 4 _ (by simp) rfl)
        obtain ⟨x, rfl⟩ := upd_of (show x 13 = .agg #[.int .i64 j0, .int .i64 j1] from hd 13 _ (by simp) rfl)
        dsimp only [upd, Nat.reduceBEq, cond_true, cond_false]
        refine wpOp_step rfl (fun K' hK' => ?_)
        go_simp
        refine (play4_any a0 a1 a2 a3 t0 t1 s0 s1 hei o q0 q1 q2 q3 u0 u1 z0 z1 hei' o' cl ch j0 j1 HL.out HB.out KA.out KM.out _ _ _ _ _ _ _ _ _ _ _ _ v r1.1 r1.2.1 r1.2.2 r3.1 r3.2.1 r3.2.2).mono ?_
        rintro e v' ⟨b9, f9, c9, rfl, hg, r⟩
        exact hK' _ _ (hK _ _ hg (at_of rfl (⟨_, _, _, rfl, r⟩)))
       ·obtain ⟨nb14, nf14, nc14, e14, r14⟩ := hd 14 _ (by simp) rfl
        obtain ⟨x, rfl⟩ := upd_of (show x 14 = .tuple #[.slice (some ⟨nb14, nf14, none⟩) 4 nc14, .int .i64 0] from e14)
        dsimp only [upd, Nat.reduceBEq, cond_true, cond_false]
        refine wpOp_step rfl (fun K' hK' => ?_)
        go_simp
        exact hK' _ _ (hK _ _ (Below.refl _ _) (at_of rfl (⟨_, _, _, rfl, r14⟩)))
       ·obtain ⟨nb15, nf15, nc15, e15, r15⟩ := hd 15 _ (by simp) rfl
        obtain ⟨x, rfl⟩ := upd_of (show x 15 = .tuple #[.slice (some ⟨nb15, nf15, none⟩) 4 nc15, .int .i64 0] from e15)
        dsimp only [upd, Nat.reduceBEq, cond_true, cond_false]
        refine wpOp_step rfl (fun K' hK' => ?_)
        go_simp
        exact hK' _ _ (hK _ _ (Below.refl _ _) (at_of rfl (⟨_, _, _, rfl, r15⟩)))
       ·obtain ⟨nb15, nf15, nc15, e15, r15⟩ := hd 15 _ (by simp) rfl
        obtain ⟨x, rfl⟩ := upd_of (show x 15 = .tuple #[.slice (some ⟨nb15, nf15, none⟩) 4 nc15, .int .i64 0] from e15)
        dsimp only [upd, Nat.reduceBEq, cond_true, cond_false]
        refine wpOp_step rfl (fun K' hK' => ?_)
        go_simp
        exact hK' _ _ (hK _ _ (Below.refl _ _) (at_of rfl (rfl)))
       ·obtain ⟨nb16, nf16, nc16, e16, r16⟩ := hd 16 _ (by simp) rfl
        obtain ⟨x, rfl⟩ := upd_of (show x 16 = .slice (some ⟨nb16, nf16, none⟩) 4 nc16 from e16)
        dsimp only [upd, Nat.reduceBEq, cond_true, cond_false]
        refine wpOp_step rfl (fun K' hK' => ?_)
        go_simp
        exact hK' _ _ (hK _ _ (Below.refl _ _) (at_of rfl (⟨_, _, _, rfl, r16⟩)))
      case fin10 =>
       rintro x v gv hd
       obtain ⟨x, rfl⟩ := upd_of (show x 17 = .int .i64 0 from hd 17 _ (by omega) rfl)
       obtain ⟨nb18, nf18, nc18, e18, r18⟩ := hd 18 _ (by omega) rfl
       obtain ⟨x, rfl⟩ := upd_of (show x 18 = .slice (some ⟨nb18, nf18, none⟩) 4 nc18 from e18)
       clear hd
       show wpList Try.prog _ _ (List.drop 19 _) (⟨#[_, _, _, _, _, _, _, _, _, _, _, _, _, _, _, _, _, _, _, .slice (some ⟨nb18, nf18, none⟩) 4 nc18, _, _, _, _, _, _, _, _, _, _, _, _, _, _, _, _, _, _, _, _, _, _, _, _, _, _, _, _, _, _, _, _, _, _, _, _, _, _, _, _, _, _, _, _, _, _, _, _, _, _, _, _, _, _, _, _, _, _, _, _, _, _, _, _, _, _, _, _, _, _, _, _, _, x 15, x 0, x 1, x 2, x 3, x 4, x 5, x 6, x 7, x 8, x 9, x 10, x 11, x 12, x 13, x 14, x 16, .int .i64 0, _, _, _, _, _, _, _, _, _, _, _, _, _, _, _, _, _, _, _, _, _, _, _, _, _, _, _, _, _, _, _, _, _, _, _, _, _, _, _, _, _, _, _, _, _, _, _, _, _, _, _, _, _, _, _, _, _, _, _, _, _, _, _, _, _, _, _, _, _, _, _, _, _, _, _, _, _, _, _, _, _, _, _, _, _, _, _, _, _, _, _, _, _, _, _, _, _, _, _, _, _, _, _, _, _, _, _, _, _, _, _, _, _, _, _, _, _, _, _, _, _, _, _, _, _, _, _, _, _, _, _, _, _, _, _, _, _, _, _, _, _, _, _, _, _, _, _, _, _, _, _, _, _, _, _, _, _, _, _, _, _, _, _, _, _, _, _, _, _, _, _, _, _, _, _, _, _, _, _, _, _, _, _, _, _, _, _, _, _, _, _, _, _, _, _, _, _, _, _, _, _, _, _, _, _, _, _, _, _, _, _, _, _, _, _, _, _, _, _, _, _, _, _], []⟩ : Act) v
       simp only [List.drop_succ_cons, List.drop_zero]
       replace gU := gU.tr gv
       replace h3 := h3.keep gv
       replace oL := oL.keep gv
       replace oB := oB.keep gv
       replace oA := oA.keep gv
       replace oC := oC.keep gv
       replace r3 := r3.grow gv
       replace r7 := r7.grow gv
       replace r11 := r11.grow gv
       replace j3 := j3.grow gv
       replace j7 := j7.grow gv
       replace j11 := j11.grow gv
       replace rL := rL.grow gv
       replace rM := rM.grow gv
       have rN := r18
       clear r18 e18 gv
       go_upto_region 13 with fail
       refine wp_abs (fun Z => Gr v Z) (Below.refl _ _) ?_
       rintro wk gK
       replace gU := gU.tr gK
       replace h3 := h3.keep gK
       replace oL := oL.keep gK
       replace oB := oB.keep gK
       replace oA := oA.keep gK
       replace oC := oC.keep gK
       replace r3 := r3.grow gK
       replace r7 := r7.grow gK
       replace r11 := r11.grow gK
       replace j3 := j3.grow gK
       replace j7 := j7.grow gK
       replace j11 := j11.grow gK
       replace rL := rL.grow gK
       replace rM := rM.grow gK
       replace rN := rN.grow gK
       clear gK
       go_wp2
       go_loopw [21] (fun x wr => Hid (∃ i : Nat, i ≤ 4 ∧ x = .int .i64 i ∧ Gr wk wr)) (fun x wr => 4 - (intOf x).toNat)
       case atStart => exact Lib.hid ⟨0, by omega, rfl, Below.refl _ _⟩
       case round =>
        obtain ⟨i, hi, rfl, gW⟩ := hrel.out
        clear hrel
        refine wp_abs (fun Z => Gr wk Z) gW ?_
        clear gW
        rintro wz gW
        have gR := gW
        replace gU := gU.tr gR
        replace h3 := h3.keep gR
        replace oL := oL.keep gR
        replace oB := oB.keep gR
        replace oA := oA.keep gR
        replace oC := oC.keep gR
        replace r3 := r3.grow gR
        replace r7 := r7.grow gR
        replace r11 := r11.grow gR
        replace j3 := j3.grow gR
        replace j7 := j7.grow gR
        replace j11 := j11.grow gR
        replace rL := rL.grow gR
        replace rM := rM.grow gR
        replace rN := rN.grow gR
        clear gR
        by_cases hlt : i < 4
        case pos =>
         obtain ⟨p, q, hl, hm, hn, bp, bq⟩ : ∃ p q, ([playX a0 q0 cl ch cl' ch', playX a1 q1 cl ch cl' ch', playX a2 q2 cl ch cl' ch', playX a3 q3 cl ch cl' ch'] : List Sp)[i]? = some (playX p q cl ch cl' ch') ∧ ([playX g0 q0 k0 k1 cl' ch', playX g1 q1 k0 k1 cl' ch', playX g2 q2 k0 k1 cl' ch', playX g3 q3 k0 k1 cl' ch'] : List Sp)[i]? = some (playX (p + more) q k0 k1 cl' ch') ∧ ([playX a0 q0 cl ch j0 j1, playX a1 q1 cl ch j0 j1, playX a2 q2 cl ch j0 j1, playX a3 q3 cl ch j0 j1] : List Sp)[i]? = some (playX p q cl ch j0 j1) ∧ (60 ≤ p ∧ p ≤ 315) ∧ (60 ≤ q ∧ q ≤ 315) := by
          have h0 := HS.out
          have h1 := HS'.out
          rw [← HG0.out, ← HG1.out, ← HG2.out, ← HG3.out]
          match i, hlt with
          | 0, _ => exact ⟨a0, q0, rfl, rfl, rfl, h0.1, h1.1⟩
          | 1, _ => exact ⟨a1, q1, rfl, rfl, rfl, h0.2.1, h1.2.1⟩
          | 2, _ => exact ⟨a2, q2, rfl, rfl, rfl, h0.2.2.1, h1.2.2.1⟩
          | 3, _ => exact ⟨a3, q3, rfl, rfl, rfl, h0.2.2.2.1, h1.2.2.2.1⟩
         obtain ⟨_, _, hla, _, l0, l1⟩ := SRow.get rL hl
         cases hla
         obtain ⟨_, _, hla, _, m0, m1⟩ := SRow.get rM hm
         cases hla
         obtain ⟨_, _, hla, _, n0, n1⟩ := SRow.get rN hn
         cases hla
         have hK0 := HK0.out
         have hK1 := HK1.out
         have hJ0 := HJ0.out
         have hJ1 := HJ1.out
         obtain ⟨A0, hA0⟩ : ∃ z, (playX p q cl ch cl' ch').lo = z := ⟨_, rfl⟩
         obtain ⟨A1, hA1⟩ : ∃ z, (playX p q cl ch cl' ch').hi = z := ⟨_, rfl⟩
         have eA0 : A0 = 1000 * p - ch - 1000 * q - ch' := hA0.symm
         have eA1 : A1 = 1000 * p - cl - 1000 * q - cl' := hA1.symm
         obtain ⟨C0, hC0⟩ : ∃ z, A0 + less = z := ⟨_, rfl⟩
         obtain ⟨C1, hC1⟩ : ∃ z, A1 + less = z := ⟨_, rfl⟩
         obtain ⟨mm, hmm⟩ : ∃ z, 1000 * more = z := ⟨_, rfl⟩
         obtain ⟨M0, hM0⟩ : ∃ z, C0 + mm = z := ⟨_, rfl⟩
         obtain ⟨M1, hM1⟩ : ∃ z, C1 + mm = z := ⟨_, rfl⟩
         rw [hA0] at l0
         rw [hA1] at l1
         rw [show (playX (p + more) q k0 k1 cl' ch').lo = M0 from by simp only [playX]; omega] at m0
         rw [show (playX (p + more) q k0 k1 cl' ch').hi = M1 from by simp only [playX]; omega] at m1
         rw [show (playX p q cl ch j0 j1).lo = C0 from by simp only [playX]; omega] at n0
         rw [show (playX p q cl ch j0 j1).hi = C1 from by simp only [playX]; omega] at n1
         have w0 : IntKind.i64.wrap (A0 + less) = C0 := by rw [IntWalk.i64_in _ (by omega)]; exact hC0
         have w1 : IntKind.i64.wrap (A1 + less) = C1 := by rw [IntWalk.i64_in _ (by omega)]; exact hC1
         have w2 : IntKind.i64.wrap (1000 * more) = mm := by rw [IntWalk.i64_in _ (by omega)]; exact hmm
         have w3' : IntKind.i64.wrap (C0 + mm) = M0 := by rw [IntWalk.i64_in _ (by omega)]; exact hM0
         have w4' : IntKind.i64.wrap (C1 + mm) = M1 := by rw [IntWalk.i64_in _ (by omega)]; exact hM1
         have ng : decide (A0 > A1) = false := by simp; omega
         have ng' : decide (A1 < A0) = false := by simp; omega
         clear eA0 eA1 hA0 hA1 hC0 hC1 hmm hM0 hM1 hK0 hK1 hJ0 hJ1 hl hm hn
         go_upto_region 16 with fail
         have SP1 := Lib.hid (fun (u : From wz) => span02_any M0 M1 u.val)
         have SP2 := Lib.hid (fun (u : From wz) => span02_any C0 C1 u.val)
         have f0 := From.keep l0
         have f1 := From.keep l1
         have f2 := From.keep m0
         have f3 := From.keep m1
         have f4 := From.keep n0
         have f5 := From.keep n1
         refine wp_region_gr (by kernel_rfl) (by kernel_rfl) ?_
         repeat (go_big_quiet_step (first
          | (go_at_call 26; (with_reducible exact Calls.gr (SP1.out _)))
          | (go_at_call 26; (with_reducible exact Calls.gr (SP2.out _)))))
         refine wpQuiet_nil ?_
         rintro _ ⟨u, rfl⟩
         clear f0 f1 f2 f3 f4 f5 w0 w1 w2 w3' w4' SP1 SP2 ng ng'
         go_wp2
         go_roundw
         case rel => exact Lib.hid ⟨i + 1, by omega, by go_num, gW.tr u.property⟩
         case measure => simp [intOf]; omega
        obtain rfl : i = 4 := by omega
        clear hlt hi gW rL rM rN
        go_upto_region 18 with fail
        obtain ⟨i0, hi0⟩ : ∃ z, 1000 * a0 - ch = z := ⟨_, rfl⟩
        obtain ⟨i1, hi1⟩ : ∃ z, 1000 * a1 - ch = z := ⟨_, rfl⟩
        obtain ⟨i2, hi2⟩ : ∃ z, 1000 * a2 - ch = z := ⟨_, rfl⟩
        obtain ⟨i3, hi3⟩ : ∃ z, 1000 * a3 - ch = z := ⟨_, rfl⟩
        obtain ⟨i4, hi4⟩ : ∃ z, micH hei o ch = z := ⟨_, rfl⟩
        obtain ⟨T0, hT0⟩ : ∃ z, min i0 i2 / 1000 = z := ⟨_, rfl⟩
        obtain ⟨T1, hT1⟩ : ∃ z, min i1 i3 / 1000 = z := ⟨_, rfl⟩
        obtain ⟨T2, hT2⟩ : ∃ z, i4 / 1000 = z := ⟨_, rfl⟩
        obtain ⟨D0, hD0⟩ : ∃ z, T0 - v2 = z := ⟨_, rfl⟩
        obtain ⟨D1, hD1⟩ : ∃ z, T1 - v3 = z := ⟨_, rfl⟩
        obtain ⟨hv20, hv21⟩ := hv2
        obtain ⟨hv30, hv31⟩ := hv3
        have bh : 20000 ≤ i4 ∧ i4 ≤ 300000 := by
         have h := HS.out.2.2.2.2.2.2.2.2.1
         rw [← hi4]
         unfold micH
         split <;> omega
        have b0 : 20000 ≤ i0 ∧ i0 ≤ 400000 := by have := HS.out.1; omega
        have b1 : 20000 ≤ i1 ∧ i1 ≤ 400000 := by have := HS.out.2.1; omega
        have b2 : 20000 ≤ i2 ∧ i2 ≤ 400000 := by have := HS.out.2.2.1; omega
        have b3 : 20000 ≤ i3 ∧ i3 ≤ 400000 := by have := HS.out.2.2.2.1; omega
        have tb0 : 0 ≤ T0 ∧ T0 ≤ 400 := by omega
        have tb1 : 0 ≤ T1 ∧ T1 ≤ 400 := by omega
        have tb2 : 0 ≤ T2 ∧ T2 ≤ 400 := by omega
        have DA := Lib.hid (fun v => down_any (min i0 i2) (by omega) (by omega) v)
        have DB := Lib.hid (fun v => down_any (min i1 i3) (by omega) (by omega) v)
        have DC := Lib.hid (fun v => down_any i4 (by omega) (by omega) v)
        rw [hT0] at DA
        rw [hT1] at DB
        rw [hT2] at DC
        have hk0 := HK0.out
        have hk1 := HK1.out
        have KN : Hid (Cal2 k0 ch) := Lib.hid ⟨by omega, by omega, by omega⟩
        have F1 : Hid (fitsL [T0, T1, T2] [min (1000 * a0 - ch) (1000 * a2 - ch), min (1000 * a1 - ch) (1000 * a3 - ch), micH hei o ch] = true) := Lib.hid (fits_floor (by omega) (by omega) (by omega))
        have mh : micH hei o ch ≤ micH hei o cl := micH_le (by omega)
        have mk : micH hei o ch ≤ micH hei o k0 := micH_le (by omega)
        have F2 : Hid (fitsL [T0, T1, T2] [min (1000 * a0 - cl) (1000 * a2 - cl), min (1000 * a1 - cl) (1000 * a3 - cl), micH hei o cl] = true) := Lib.hid (fits_floor (by omega) (by omega) (by omega))
        have F3 : Hid (fitsL [T2, max 0 D0, max 0 D1] [min (1000 * a0 - ch) (1000 * a2 - ch), min (1000 * a1 - ch) (1000 * a3 - ch), micH hei o ch] = true) := Lib.hid (fits_turn (fits_floor (by omega) (by omega) (by omega)))
        have F4 : Hid (fitsL [T2, max 0 D0, max 0 D1] [min (1000 * a0 - k0) (1000 * a2 - k0), min (1000 * a1 - k0) (1000 * a3 - k0), micH hei o k0] = true) := Lib.hid (fits_turn (fits_floor (by omega) (by omega) (by omega)))
        have F5 : Hid (fitsL [T0 + 1, T1 + 1, T2 + 1] [min (1000 * a0 - ch) (1000 * a2 - ch), min (1000 * a1 - ch) (1000 * a3 - ch), micH hei o ch] = false) := Lib.hid (fits_not (by omega) (by omega) (by omega))
        obtain ⟨fb, hfb⟩ : ∃ b, fitsL [T0 + 1, T1 + 1, T2 + 1] [min (1000 * a0 - cl) (1000 * a2 - cl), min (1000 * a1 - cl) (1000 * a3 - cl), micH hei o cl] = b := ⟨_, rfl⟩
        have F6 := Lib.hid hfb
        have HO1 := Lib.hid (holds4_any a0 a1 a2 a3 t0 t1 s0 s1 hei o cl ch HL.out KA.out T0 T1 T2 (by omega) (by omega) (by omega))
        have HO2 := Lib.hid (holds4_any a0 a1 a2 a3 t0 t1 s0 s1 hei o k0 ch HL.out KN.out T2 (max 0 D0) (max 0 D1) (by omega) (by omega) (by omega))
        have HO3 := Lib.hid (holds4_any a0 a1 a2 a3 t0 t1 s0 s1 hei o cl ch HL.out KA.out (T0 + 1) (T1 + 1) (T2 + 1) (by omega) (by omega) (by omega))
        have hIB : inB 0 100000 [a0, a1, a2, a3, t0, t1, s0, s1, hei, ch] = true := by
         obtain ⟨h0, h1, h2, h3, h4, h5, h6, h7, h8, h9⟩ := HS.out
         simp only [inB, in1, List.all_cons, List.all_nil, Bool.and_true, Bool.and_eq_true, decide_eq_true_eq]
         omega
        have MI := micros_any 30 hei 9 a0 a1 a2 a3 t0 t1 s0 s1 ka3 ka7 ka11 kc3 kc7 kc11 o ch hIB wz r3 r7 r11
        rw [hi0, hi1, hi2, hi3, hi4] at MI
        have MI := Lib.hid MI
        have wD0 : IntKind.i64.wrap (T0 - v2) = D0 := by rw [IntWalk.i64_in _ (by omega)]; exact hD0
        have wD1 : IntKind.i64.wrap (T1 - v3) = D1 := by rw [IntWalk.i64_in _ (by omega)]; exact hD1
        have wv2 : IntKind.i64.wrap v2 = v2 := IntWalk.i64_in _ (by omega)
        have wv3 : IntKind.i64.wrap v3 = v3 := IntWalk.i64_in _ (by omega)
        have wT0 : IntKind.i64.wrap (T0 + 1) = T0 + 1 := IntWalk.i64_in _ (by omega)
        have wT1 : IntKind.i64.wrap (T1 + 1) = T1 + 1 := IntWalk.i64_in _ (by omega)
        have wT2 : IntKind.i64.wrap (T2 + 1) = T2 + 1 := IntWalk.i64_in _ (by omega)
        have nT0 : ¬ T0 < 0 := by omega
        have nT1 : ¬ T1 < 0 := by omega
        have nT2 : ¬ T2 < 0 := by omega
        clear hi0 hi1 hi2 hi3 hi4 hT0 hT1 hT2 hD0 hD1 hfb hk0 hk1 mh mk b0 b1 b2 b3 bh tb0 tb1 tb2 hIB
        obtain ⟨b0, b1, b2, b3, b4, b5, b6⟩ := oL.c7
        obtain ⟨ca0, ca1⟩ := oA.c2
        go_upto_region 19 with (go_at_call 44; refine MI.out.mono ?_; rintro e wM ⟨rfl, gM⟩)
        clear b0 b1 b2 b3 b4 b5 b6 ca0 ca1
        obtain ⟨D, hD⟩ : ∃ D, D = wM.heap.size := ⟨_, rfl⟩
        have oI := Box.new wM [.int .i64 i0, .int .i64 i1, .int .i64 i2, .int .i64 i3, .int .i64 i4, .int .i64 (i1 - 2000 * t0), .int .i64 (i0 - 2000 * t1), .int .i64 (i1 - 2000 * s0), .int .i64 (i0 - 2000 * s1)] 78 D hD
        rw [← hD]
        refine wp_abs (fun X => Gr wz X ∧ Box X D [.int .i64 i0, .int .i64 i1, .int .i64 i2, .int .i64 i3, .int .i64 i4, .int .i64 (i1 - 2000 * t0), .int .i64 (i0 - 2000 * t1), .int .i64 (i1 - 2000 * s0), .int .i64 (i0 - 2000 * s1)]) ⟨gM.tr (Gr.al _ _), oI⟩ ?_
        clear gM oI hD
        rintro X ⟨gX, oI⟩
        replace gU := gU.tr gX
        replace h3 := h3.keep gX
        replace oL := oL.keep gX
        replace oA := oA.keep gX
        replace r3 := r3.grow gX
        replace r7 := r7.grow gX
        replace r11 := r11.grow gX
        clear gX
        refine (show (∀ sd : Nat → Value, Code.wp Try.prog _ _ ⟨#[sd 0, sd 1, sd 2, sd 3, sd 4, .pointer (some ⟨(w.heap.size + 1 + 1), 0, none⟩), sd 6, .pointer (some ⟨v8, 0, none⟩), sd 8, .pointer (some ⟨v10, 0, none⟩), sd 10, sd 11, sd 12, .int .i64 less, sd 14, sd 15, sd 16, sd 17, sd 18, sd 19, sd 20, sd 21, .pointer (some ⟨D, 0, none⟩), undef, undef, undef, undef, undef, undef, undef, undef, undef, undef, undef, undef, sd 35, sd 36, sd 37, sd 38, sd 39, sd 40, sd 41, sd 42, sd 43, sd 44, sd 45, sd 46, sd 47, sd 48, sd 49, sd 50, sd 51, sd 52, sd 53, sd 54, sd 55, sd 56, sd 57, sd 58, sd 59, sd 60, sd 61, sd 62, sd 63, sd 64, sd 65, sd 66, sd 67, sd 68, sd 69, sd 70, sd 71, sd 72, sd 73, sd 74, sd 75, sd 76, sd 77, sd 78, sd 79, sd 80, sd 81, sd 82, sd 83, sd 84, sd 85, sd 86, sd 87, sd 88, sd 89, sd 90, sd 91, sd 92, sd 93, sd 94, sd 95, sd 96, sd 97, sd 98, sd 99, sd 100, sd 101, sd 102, sd 103, sd 104, sd 105, sd 106, sd 107, sd 108, sd 109, sd 110, sd 111, sd 112, sd 113, sd 114, sd 115, sd 116, sd 117, sd 118, sd 119, sd 120, sd 121, sd 122, sd 123, sd 124, sd 125, sd 126, sd 127, sd 128, sd 129, sd 130, sd 131, sd 132, sd 133, sd 134, sd 135, sd 136, sd 137, sd 138, sd 139, sd 140, sd 141, sd 142, sd 143, sd 144, sd 145, sd 146, sd 147, sd 148, sd 149, sd 150, sd 151, sd 152, sd 153, sd 154, sd 155, sd 156, sd 157, sd 158, sd 159, sd 160, sd 161, sd 162, sd 163, sd 164, sd 165, sd 166, sd 167, sd 168, sd 169, sd 170, sd 171, sd 172, sd 173, sd 174, sd 175, sd 176, sd 177, sd 178, sd 179, sd 180, sd 181, sd 182, sd 183, sd 184, sd 185, sd 186, sd 187, sd 188, sd 189, sd 190, sd 191, sd 192, sd 193, sd 194, sd 195, sd 196, sd 197, sd 198, sd 199, sd 200, sd 201, sd 202, sd 203, sd 204, undef, undef, undef, undef, undef, undef, undef, undef, undef, undef, undef, undef, undef, undef, undef, undef, undef, undef, undef, undef, undef, undef, undef, undef, undef, undef, undef, undef, undef, undef, undef, undef, undef, undef, undef, undef, undef, undef, undef, undef, undef, undef, undef, undef, undef, undef, undef, undef, undef, undef, undef, undef, undef, undef, undef, undef, undef, undef, undef, undef, undef, undef, undef, undef, undef, undef, undef, undef, undef, undef, undef, undef, undef, undef, undef, undef, undef, undef, undef, undef, undef, undef, undef, undef, undef, undef, undef, undef, undef, undef, undef, undef, undef, undef, undef, undef, undef, undef, undef, undef, undef, undef, undef, undef, undef, undef, undef, undef, undef, undef, undef, undef, undef, undef, undef, undef, undef, undef, undef, undef, undef, undef, undef, undef, undef, undef, undef, undef, undef], []⟩ _) → _ from fun h => h ((fun l : List Value => fun i => l.getD i undef) [_, _, _, _, _, undef, _, undef, _, undef, _, _, _, undef, _, _, _, _, _, _, _, _, undef, undef, undef, undef, undef, undef, undef, undef, undef, undef, undef, undef, undef, _, _, _, _, _, _, _, _, _, _, _, _, _, _, _, _, _, _, _, _, _, _, _, _, _, _, _, _, _, _, _, _, _, _, _, _, _, _, _, _, _, _, _, _, _, _, _, _, _, _, _, _, _, _, _, _, _, _, _, _, _, _, _, _, _, _, _, _, _, _, _, _, _, _, _, _, _, _, _, _, _, _, _, _, _, _, _, _, _, _, _, _, _, _, _, _, _, _, _, _, _, _, _, _, _, _, _, _, _, _, _, _, _, _, _, _, _, _, _, _, _, _, _, _, _, _, _, _, _, _, _, _, _, _, _, _, _, _, _, _, _, _, _, _, _, _, _, _, _, _, _, _, _, _, _, _, _, _, _, _, _, _, _, _, _, _, _, _, _, _])) ?_
        intro sd
        dsimp only
        refine wp_region_facts 16 [(1, 0), (3, 2), (4, 1), (4, 3), (5, 4), (7, 6), (9, 8), (10, 7), (10, 9), (11, 10), (13, 12), (14, 13), (15, 5), (15, 11), (15, 14)] (fun x => ⟨#[sd 0, sd 1, sd 2, sd 3, sd 4, .pointer (some ⟨(w.heap.size + 1 + 1), 0, none⟩), sd 6, .pointer (some ⟨v8, 0, none⟩), sd 8, .pointer (some ⟨v10, 0, none⟩), sd 10, sd 11, sd 12, .int .i64 less, sd 14, sd 15, sd 16, sd 17, sd 18, sd 19, sd 20, sd 21, .pointer (some ⟨D, 0, none⟩), undef, undef, undef, undef, undef, undef, undef, undef, undef, undef, undef, undef, sd 35, sd 36, sd 37, sd 38, sd 39, sd 40, sd 41, sd 42, sd 43, sd 44, sd 45, sd 46, sd 47, sd 48, sd 49, sd 50, sd 51, sd 52, sd 53, sd 54, sd 55, sd 56, sd 57, sd 58, sd 59, sd 60, sd 61, sd 62, sd 63, sd 64, sd 65, sd 66, sd 67, sd 68, sd 69, sd 70, sd 71, sd 72, sd 73, sd 74, sd 75, sd 76, sd 77, sd 78, sd 79, sd 80, sd 81, sd 82, sd 83, sd 84, sd 85, sd 86, sd 87, sd 88, sd 89, sd 90, sd 91, sd 92, sd 93, sd 94, sd 95, sd 96, sd 97, sd 98, sd 99, sd 100, sd 101, sd 102, sd 103, sd 104, sd 105, sd 106, sd 107, sd 108, sd 109, sd 110, sd 111, sd 112, sd 113, sd 114, sd 115, sd 116, sd 117, sd 118, sd 119, sd 120, sd 121, sd 122, sd 123, sd 124, sd 125, sd 126, sd 127, sd 128, sd 129, sd 130, sd 131, sd 132, sd 133, sd 134, sd 135, sd 136, sd 137, sd 138, sd 139, sd 140, sd 141, sd 142, sd 143, sd 144, sd 145, sd 146, sd 147, sd 148, sd 149, sd 150, sd 151, sd 152, sd 153, sd 154, sd 155, sd 156, sd 157, sd 158, sd 159, sd 160, sd 161, sd 162, sd 163, sd 164, sd 165, sd 166, sd 167, sd 168, sd 169, sd 170, sd 171, sd 172, sd 173, sd 174, sd 175, sd 176, sd 177, sd 178, sd 179, sd 180, sd 181, sd 182, sd 183, sd 184, sd 185, sd 186, sd 187, sd 188, sd 189, sd 190, sd 191, sd 192, sd 193, sd 194, sd 195, sd 196, sd 197, sd 198, sd 199, sd 200, sd 201, sd 202, sd 203, sd 204, x 0, x 1, x 2, x 3, x 4, x 5, x 6, x 7, x 8, x 9, x 10, x 11, x 12, x 13, x 14, x 15, undef, undef, undef, undef, undef, undef, undef, undef, undef, undef, undef, undef, undef, undef, undef, undef, undef, undef, undef, undef, undef, undef, undef, undef, undef, undef, undef, undef, undef, undef, undef, undef, undef, undef, undef, undef, undef, undef, undef, undef, undef, undef, undef, undef, undef, undef, undef, undef, undef, undef, undef, undef, undef, undef, undef, undef, undef, undef, undef, undef, undef, undef, undef, undef, undef, undef, undef, undef, undef, undef, undef, undef, undef, undef, undef, undef, undef, undef, undef, undef, undef, undef, undef, undef, undef, undef, undef, undef, undef, undef, undef, undef, undef, undef, undef, undef, undef, undef, undef, undef, undef, undef, undef, undef, undef, undef, undef, undef, undef, undef, undef, undef, undef], []⟩) (fun _ => undef) [fun _ x => x = .pointer (some ⟨D, 0, none⟩), fun _ x => x = .int .i64 i0, fun _ x => x = .pointer (some ⟨D, 2, none⟩), fun _ x => x = .int .i64 i2, fun _ x => x = .int .i64 (min i0 i2), fun _ x => x = .int .i64 T0, fun _ x => x = .pointer (some ⟨D, 1, none⟩), fun _ x => x = .int .i64 i1, fun _ x => x = .pointer (some ⟨D, 3, none⟩), fun _ x => x = .int .i64 i3, fun _ x => x = .int .i64 (min i1 i3), fun _ x => x = .int .i64 T1, fun _ x => x = .pointer (some ⟨D, 4, none⟩), fun _ x => x = .int .i64 i4, fun _ x => x = .int .i64 T2, fun v x => ∃ a, x = .slice (some ⟨a, 0, none⟩) 3 3 ∧ Own v a [.int .i64 T0, .int .i64 T1, .int .i64 T2]] (by rfl) (by kernel_rfl) (by kernel_rfl) (by kernel_rfl) (stays_cons (Stays.eq _) (stays_cons (Stays.eq _) (stays_cons (Stays.eq _) (stays_cons (Stays.eq _) (stays_cons (Stays.eq _) (stays_cons (Stays.eq _) (stays_cons (Stays.eq _) (stays_cons (Stays.eq _) (stays_cons (Stays.eq _) (stays_cons (Stays.eq _) (stays_cons (Stays.eq _) (stays_cons (Stays.eq _) (stays_cons (Stays.eq _) (stays_cons (Stays.eq _) (stays_cons (Stays.eq _) (stays_cons ((show Stays (fun v x => ∃ a, x = .slice (some ⟨a, 0, none⟩) 3 3 ∧ Own v a [.int .i64 T0, .int .i64 T1, .int .i64 T2]) from fun v v' x g ⟨a, e, r⟩ => ⟨a, e, r.keep g⟩)) stays_nil)))))))))))))))) ?step19 ?fin19
        case step19 => as_aux_lemma =>
         rintro i hi x v gv hd K hK
         have hi8 : i = 0 ∨ i = 1 ∨ i = 2 ∨ i = 3 ∨ i = 4 ∨ i = 5 ∨ i = 6 ∨ i = 7 ∨ i = 8 ∨ i = 9 ∨ i = 10 ∨ i = 11 ∨ i = 12 ∨ i = 13 ∨ i = 14 ∨ i = 15 := by omega
         rcases hi8 with rfl | rfl | rfl | rfl | rfl | rfl | rfl | rfl | rfl | rfl | rfl | rfl | rfl | rfl | rfl | rfl
         ·dsimp only [upd, Nat.reduceBEq, cond_true, cond_false]
          refine wpOp_step rfl (fun K' hK' => ?_)
          go_simp
          exact hK' _ _ (hK _ _ (Below.refl _ _) (at_of rfl (rfl)))
         ·obtain ⟨x, rfl⟩ := upd_of (show x 0 = .pointer (some ⟨D, 0, none⟩) from hd 0 _ (by simp) rfl)
          dsimp only [upd, Nat.reduceBEq, cond_true, cond_false]
          refine wpOp_step rfl (fun K' hK' => ?_)
          have q := (oI.keep gv).2 0 _ rfl
          go_simp
          exact hK' _ _ (hK _ _ (Below.refl _ _) (at_of rfl (rfl)))
         ·dsimp only [upd, Nat.reduceBEq, cond_true, cond_false]
          refine wpOp_step rfl (fun K' hK' => ?_)
          go_simp
          exact hK' _ _ (hK _ _ (Below.refl _ _) (at_of rfl (rfl)))
         ·obtain ⟨x, rfl⟩ := upd_of (show x 2 = .pointer (some ⟨D, 2, none⟩) from hd 2 _ (by simp) rfl)
          dsimp only [upd, Nat.reduceBEq, cond_true, cond_false]
          refine wpOp_step rfl (fun K' hK' => ?_)
          have q := (oI.keep gv).2 2 _ rfl
          go_simp
          exact hK' _ _ (hK _ _ (Below.refl _ _) (at_of rfl (rfl)))
         ·obtain ⟨x, rfl⟩ := upd_of (show x 1 = .int .i64 i0 from hd 1 _ (by simp) rfl)
          obtain ⟨x, rfl⟩ := upd_of (show x 3 = .int .i64 i2 from hd 3 _ (by simp) rfl)
          dsimp only [upd, Nat.reduceBEq, cond_true, cond_false]
          refine wpOp_step rfl (fun K' hK' => ?_)
          go_simp
          exact hK' _ _ (hK _ _ (Below.refl _ _) (at_of rfl (rfl)))
         ·obtain ⟨x, rfl⟩ := upd_of (show x 4 = .int .i64 (min i0 i2) from hd 4 _ (by simp) rfl)
          dsimp only [upd, Nat.reduceBEq, cond_true, cond_false]
          refine wpOp_step rfl (fun K' hK' => ?_)
          go_simp
          refine (DA.out v).mono ?_
          rintro e v' ⟨rfl, hg⟩
          exact hK' _ _ (hK _ _ hg (at_of rfl (rfl)))
         ·dsimp only [upd, Nat.reduceBEq, cond_true, cond_false]
          refine wpOp_step rfl (fun K' hK' => ?_)
          go_simp
          exact hK' _ _ (hK _ _ (Below.refl _ _) (at_of rfl (rfl)))
         ·obtain ⟨x, rfl⟩ := upd_of (show x 6 = .pointer (some ⟨D, 1, none⟩) from hd 6 _ (by simp) rfl)
          dsimp only [upd, Nat.reduceBEq, cond_true, cond_false]
          refine wpOp_step rfl (fun K' hK' => ?_)
          have q := (oI.keep gv).2 1 _ rfl
          go_simp
          exact hK' _ _ (hK _ _ (Below.refl _ _) (at_of rfl (rfl)))
         ·dsimp only [upd, Nat.reduceBEq, cond_true, cond_false]
          refine wpOp_step rfl (fun K' hK' => ?_)
          go_simp
          exact hK' _ _ (hK _ _ (Below.refl _ _) (at_of rfl (rfl)))
         ·obtain ⟨x, rfl⟩ := upd_of (show x 8 = .pointer (some ⟨D, 3, none⟩) from hd 8 _ (by simp) rfl)
          dsimp only [upd, Nat.reduceBEq, cond_true, cond_false]
          refine wpOp_step rfl (fun K' hK' => ?_)
          have q := (oI.keep gv).2 3 _ rfl
          go_simp
          exact hK' _ _ (hK _ _ (Below.refl _ _) (at_of rfl (rfl)))
         ·obtain ⟨x, rfl⟩ := upd_of (show x 7 = .int .i64 i1 from hd 7 _ (by simp) rfl)
          obtain ⟨x, rfl⟩ := upd_of (show x 9 = .int .i64 i3 from hd 9 _ (by simp) rfl)
          dsimp only [upd, Nat.reduceBEq, cond_true, cond_false]
          refine wpOp_step rfl (fun K' hK' => ?_)
          go_simp
          exact hK' _ _ (hK _ _ (Below.refl _ _) (at_of rfl (rfl)))
         ·obtain ⟨x, rfl⟩ := upd_of (show x 10 = .int .i64 (min i1 i3) from hd 10 _ (by simp) rfl)
          dsimp only [upd, Nat.reduceBEq, cond_true, cond_false]
          refine wpOp_step rfl (fun K' hK' => ?_)
          go_simp
          refine (DB.out v).mono ?_
          rintro e v' ⟨rfl, hg⟩
          exact hK' _ _ (hK _ _ hg (at_of rfl (rfl)))
         ·dsimp only [upd, Nat.reduceBEq, cond_true, cond_false]
          refine wpOp_step rfl (fun K' hK' => ?_)
          go_simp
          exact hK' _ _ (hK _ _ (Below.refl _ _) (at_of rfl (rfl)))
         ·obtain ⟨x, rfl⟩ := upd_of (show x 12 = .pointer (some ⟨D, 4, none⟩) from hd 12 _ (by simp) rfl)
          dsimp only [upd, Nat.reduceBEq, cond_true, cond_false]
          refine wpOp_step rfl (fun K' hK' => ?_)
          have q := (oI.keep gv).2 4 _ rfl
          go_simp
          exact hK' _ _ (hK _ _ (Below.refl _ _) (at_of rfl (rfl)))
         ·obtain ⟨x, rfl⟩ := upd_of (show x 13 = .int .i64 i4 from hd 13 _ (by simp) rfl)
          dsimp only [upd, Nat.reduceBEq, cond_true, cond_false]
          refine wpOp_step rfl (fun K' hK' => ?_)
          go_simp
          refine (DC.out v).mono ?_
          rintro e v' ⟨rfl, hg⟩
          exact hK' _ _ (hK _ _ hg (at_of rfl (rfl)))
         ·obtain ⟨x, rfl⟩ := upd_of (show x 5 = .int .i64 T0 from hd 5 _ (by simp) rfl)
          obtain ⟨x, rfl⟩ := upd_of (show x 11 = .int .i64 T1 from hd 11 _ (by simp) rfl)
          obtain ⟨x, rfl⟩ := upd_of (show x 14 = .int .i64 T2 from hd 14 _ (by simp) rfl)
          dsimp only [upd, Nat.reduceBEq, cond_true, cond_false]
          refine wpOp_step rfl (fun K' hK' => ?_)
          go_simp
          have hg := Gr.al v (.cells (List.toArray [.int .i64 T0, .int .i64 T1, .int .i64 T2]) 3)
          exact hK' _ _ (hK _ _ hg (at_of rfl (⟨_, rfl, Own.new v [.int .i64 T0, .int .i64 T1, .int .i64 T2] 3 v.heap.size rfl⟩)))
        case fin19 =>
         rintro x v gv hd
         obtain ⟨n15_, e15, r15⟩ := hd 15 _ (by omega) rfl
         obtain ⟨x, rfl⟩ := upd_of (show x 15 = .slice (some ⟨n15_, 0, none⟩) 3 3 from e15)
         clear hd
         show wpList Try.prog _ _ (List.drop 16 _) (⟨#[_, _, _, _, _, _, _, _, _, _, _, _, _, _, _, _, _, _, _, _, _, _, _, _, _, _, _, _, _, _, _, _, _, _, _, _, _, _, _, _, _, _, _, _, _, _, _, _, _, _, _, _, _, _, _, _, _, _, _, _, _, _, _, _, _, _, _, _, _, _, _, _, _, _, _, _, _, _, _, _, _, _, _, _, _, _, _, _, _, _, _, _, _, _, _, _, _, _, _, _, _, _, _, _, _, _, _, _, _, _, _, _, _, _, _, _, _, _, _, _, _, _, _, _, _, _, _, _, _, _, _, _, _, _, _, _, _, _, _, _, _, _, _, _, _, _, _, _, _, _, _, _, _, _, _, _, _, _, _, _, _, _, _, _, _, _, _, _, _, _, _, _, _, _, _, _, _, _, _, _, _, _, _, _, _, _, _, _, _, _, _, _, _, _, _, _, _, _, _, _, _, _, _, _, _, x 0, x 1, x 2, x 3, x 4, x 5, x 6, x 7, x 8, x 9, x 10, x 11, x 12, x 13, x 14, .slice (some ⟨n15_, 0, none⟩) 3 3, _, _, _, _, _, _, _, _, _, _, _, _, _, _, _, _, _, _, _, _, _, _, _, _, _, _, _, _, _, _, _, _, _, _, _, _, _, _, _, _, _, _, _, _, _, _, _, _, _, _, _, _, _, _, _, _, _, _, _, _, _, _, _, _, _, _, _, _, _, _, _, _, _, _, _, _, _, _, _, _, _, _, _, _, _, _, _, _, _, _, _, _, _, _, _, _, _, _, _, _, _, _, _, _, _, _, _, _, _, _, _, _, _], []⟩ : Act) v
         simp only [List.drop_succ_cons, List.drop_zero]
         replace gU := gU.tr gv
         replace h3 := h3.keep gv
         replace oL := oL.keep gv
         replace oA := oA.keep gv
         replace r3 := r3.grow gv
         replace r7 := r7.grow gv
         replace r11 := r11.grow gv
         have oT := r15
         clear r15 e15 gv oI
         have te0 := oT.1.2 0 _ rfl
         have te1 := oT.1.2 1 _ rfl
         have te2 := oT.1.2 2 _ rfl
         go_upto_region 20 with fail
         go_upto_region 22 with fail
         clear te0 te1 te2 nT0 nT1 nT2
         refine (show (∀ se : Nat → Value, Code.wp Try.prog _ _ ⟨#[se 0, se 1, se 2, se 3, se 4, .pointer (some ⟨(w.heap.size + 1 + 1), 0, none⟩), se 6, .pointer (some ⟨v8, 0, none⟩), se 8, .pointer (some ⟨v10, 0, none⟩), se 10, se 11, se 12, .int .i64 less, se 14, se 15, se 16, se 17, se 18, se 19, se 20, se 21, se 22, .slice (some ⟨n15_, 0, none⟩) 3 3, undef, undef, undef, undef, undef, undef, undef, undef, undef, undef, undef, se 35, se 36, se 37, se 38, se 39, se 40, se 41, se 42, se 43, se 44, se 45, se 46, se 47, se 48, se 49, se 50, se 51, se 52, se 53, se 54, se 55, se 56, se 57, se 58, se 59, se 60, se 61, se 62, se 63, se 64, se 65, se 66, se 67, se 68, se 69, se 70, se 71, se 72, se 73, se 74, se 75, se 76, se 77, se 78, se 79, se 80, se 81, se 82, se 83, se 84, se 85, se 86, se 87, se 88, se 89, se 90, se 91, se 92, se 93, se 94, se 95, se 96, se 97, se 98, se 99, se 100, se 101, se 102, se 103, se 104, se 105, se 106, se 107, se 108, se 109, se 110, se 111, se 112, se 113, se 114, se 115, se 116, se 117, se 118, se 119, se 120, se 121, se 122, se 123, se 124, se 125, se 126, se 127, se 128, se 129, se 130, se 131, se 132, se 133, se 134, se 135, se 136, se 137, se 138, se 139, se 140, se 141, se 142, se 143, se 144, se 145, se 146, se 147, se 148, se 149, se 150, se 151, se 152, se 153, se 154, se 155, se 156, se 157, se 158, se 159, se 160, se 161, se 162, se 163, se 164, se 165, se 166, se 167, se 168, se 169, se 170, se 171, se 172, se 173, se 174, se 175, se 176, se 177, se 178, se 179, se 180, se 181, se 182, se 183, se 184, se 185, se 186, se 187, se 188, se 189, se 190, se 191, se 192, se 193, se 194, se 195, se 196, se 197, se 198, se 199, se 200, se 201, se 202, se 203, se 204, se 205, se 206, se 207, se 208, se 209, se 210, se 211, se 212, se 213, se 214, se 215, se 216, se 217, se 218, se 219, se 220, se 221, se 222, se 223, se 224, se 225, se 226, se 227, se 228, se 229, se 230, se 231, se 232, se 233, se 234, se 235, se 236, undef, undef, undef, undef, undef, undef, undef, undef, undef, undef, undef, undef, undef, undef, undef, undef, undef, undef, undef, undef, undef, undef, undef, undef, undef, undef, undef, undef, undef, undef, undef, undef, undef, undef, undef, undef, undef, undef, undef, undef, undef, undef, undef, undef, undef, undef, undef, undef, undef, undef, undef, undef, undef, undef, undef, undef, undef, undef, undef, undef, undef, undef, undef, undef, undef, undef, undef, undef, undef, undef, undef, undef, undef, undef, undef, undef, undef, undef, undef, undef, undef, undef, undef, undef, undef, undef, undef, undef, undef, undef, undef, undef, undef, undef, undef, undef, undef], []⟩ _) → _ from fun h => h ((fun l : List Value => fun i => l.getD i undef) [_, _, _, _, _, undef, _, undef, _, undef, _, _, _, undef, _, _, _, _, _, _, _, _, _, undef, undef, undef, undef, undef, undef, undef, undef, undef, undef, undef, undef, _, _, _, _, _, _, _, _, _, _, _, _, _, _, _, _, _, _, _, _, _, _, _, _, _, _, _, _, _, _, _, _, _, _, _, _, _, _, _, _, _, _, _, _, _, _, _, _, _, _, _, _, _, _, _, _, _, _, _, _, _, _, _, _, _, _, _, _, _, _, _, _, _, _, _, _, _, _, _, _, _, _, _, _, _, _, _, _, _, _, _, _, _, _, _, _, _, _, _, _, _, _, _, _, _, _, _, _, _, _, _, _, _, _, _, _, _, _, _, _, _, _, _, _, _, _, _, _, _, _, _, _, _, _, _, _, _, _, _, _, _, _, _, _, _, _, _, _, _, _, _, _, _, _, _, _, _, _, _, _, _, _, _, _, _, _, _, _, _, _, _, _, _, _, _, _, _, _, _, _, _, _, _, _, _, _, _, _, _, _, _, _, _, _, _, _, _, _, _, _, _, _])) ?_
         intro se
         dsimp only
         refine wp_region_facts 20 [(1, 0), (2, 1), (4, 3), (5, 4), (7, 6), (8, 7), (9, 5), (9, 8), (10, 9), (12, 11), (13, 12), (15, 14), (16, 15), (17, 13), (17, 16), (18, 17), (19, 2), (19, 10), (19, 18)] (fun x => ⟨#[se 0, se 1, se 2, se 3, se 4, .pointer (some ⟨(w.heap.size + 1 + 1), 0, none⟩), se 6, .pointer (some ⟨v8, 0, none⟩), se 8, .pointer (some ⟨v10, 0, none⟩), se 10, se 11, se 12, .int .i64 less, se 14, se 15, se 16, se 17, se 18, se 19, se 20, se 21, se 22, .slice (some ⟨n15_, 0, none⟩) 3 3, undef, undef, undef, undef, undef, undef, undef, undef, undef, undef, undef, se 35, se 36, se 37, se 38, se 39, se 40, se 41, se 42, se 43, se 44, se 45, se 46, se 47, se 48, se 49, se 50, se 51, se 52, se 53, se 54, se 55, se 56, se 57, se 58, se 59, se 60, se 61, se 62, se 63, se 64, se 65, se 66, se 67, se 68, se 69, se 70, se 71, se 72, se 73, se 74, se 75, se 76, se 77, se 78, se 79, se 80, se 81, se 82, se 83, se 84, se 85, se 86, se 87, se 88, se 89, se 90, se 91, se 92, se 93, se 94, se 95, se 96, se 97, se 98, se 99, se 100, se 101, se 102, se 103, se 104, se 105, se 106, se 107, se 108, se 109, se 110, se 111, se 112, se 113, se 114, se 115, se 116, se 117, se 118, se 119, se 120, se 121, se 122, se 123, se 124, se 125, se 126, se 127, se 128, se 129, se 130, se 131, se 132, se 133, se 134, se 135, se 136, se 137, se 138, se 139, se 140, se 141, se 142, se 143, se 144, se 145, se 146, se 147, se 148, se 149, se 150, se 151, se 152, se 153, se 154, se 155, se 156, se 157, se 158, se 159, se 160, se 161, se 162, se 163, se 164, se 165, se 166, se 167, se 168, se 169, se 170, se 171, se 172, se 173, se 174, se 175, se 176, se 177, se 178, se 179, se 180, se 181, se 182, se 183, se 184, se 185, se 186, se 187, se 188, se 189, se 190, se 191, se 192, se 193, se 194, se 195, se 196, se 197, se 198, se 199, se 200, se 201, se 202, se 203, se 204, se 205, se 206, se 207, se 208, se 209, se 210, se 211, se 212, se 213, se 214, se 215, se 216, se 217, se 218, se 219, se 220, se 221, se 222, se 223, se 224, se 225, se 226, se 227, se 228, se 229, se 230, se 231, se 232, se 233, se 234, se 235, se 236, undef, x 0, x 1, x 2, x 3, x 4, x 5, x 6, x 7, x 8, x 9, x 10, x 11, x 12, x 13, x 14, x 15, x 16, x 17, x 18, x 19, undef, undef, undef, undef, undef, undef, undef, undef, undef, undef, undef, undef, undef, undef, undef, undef, undef, undef, undef, undef, undef, undef, undef, undef, undef, undef, undef, undef, undef, undef, undef, undef, undef, undef, undef, undef, undef, undef, undef, undef, undef, undef, undef, undef, undef, undef, undef, undef, undef, undef, undef, undef, undef, undef, undef, undef, undef, undef, undef, undef, undef, undef, undef, undef, undef, undef, undef, undef, undef, undef, undef, undef, undef, undef, undef, undef], []⟩) (fun _ => undef) [fun _ x => x = .slice (some ⟨n15_, 0, none⟩) 3 3, fun _ x => x = .pointer (some ⟨n15_, 2, none⟩), fun _ x => x = .int .i64 T2, fun _ x => x = .slice (some ⟨n15_, 0, none⟩) 3 3, fun _ x => x = .pointer (some ⟨n15_, 0, none⟩), fun _ x => x = .int .i64 T0, fun _ x => x = .pointer (some ⟨(w.heap.size + 1 + 1), 2, none⟩), fun _ x => x = .int .u8 v2, fun _ x => x = .int .i64 v2, fun _ x => x = .int .i64 D0, fun _ x => x = .int .i64 (max 0 D0), fun _ x => x = .slice (some ⟨n15_, 0, none⟩) 3 3, fun _ x => x = .pointer (some ⟨n15_, 1, none⟩), fun _ x => x = .int .i64 T1, fun _ x => x = .pointer (some ⟨(w.heap.size + 1 + 1), 3, none⟩), fun _ x => x = .int .u8 v3, fun _ x => x = .int .i64 v3, fun _ x => x = .int .i64 D1, fun _ x => x = .int .i64 (max 0 D1), fun v x => ∃ a, x = .slice (some ⟨a, 0, none⟩) 3 3 ∧ Own v a [.int .i64 T2, .int .i64 (max 0 D0), .int .i64 (max 0 D1)]] (by rfl) (by kernel_rfl) (by kernel_rfl) (by kernel_rfl) (stays_cons (Stays.eq _) (stays_cons (Stays.eq _) (stays_cons (Stays.eq _) (stays_cons (Stays.eq _) (stays_cons (Stays.eq _) (stays_cons (Stays.eq _) (stays_cons (Stays.eq _) (stays_cons (Stays.eq _) (stays_cons (Stays.eq _) (stays_cons (Stays.eq _) (stays_cons (Stays.eq _) (stays_cons (Stays.eq _) (stays_cons (Stays.eq _) (stays_cons (Stays.eq _) (stays_cons (Stays.eq _) (stays_cons (Stays.eq _) (stays_cons (Stays.eq _) (stays_cons (Stays.eq _) (stays_cons (Stays.eq _) (stays_cons ((show Stays (fun v x => ∃ a, x = .slice (some ⟨a, 0, none⟩) 3 3 ∧ Own v a [.int .i64 T2, .int .i64 (max 0 D0), .int .i64 (max 0 D1)]) from fun v v' x g ⟨a, e, r⟩ => ⟨a, e, r.keep g⟩)) stays_nil)))))))))))))))))))) ?step22 ?fin22
         case step22 => as_aux_lemma =>
          rintro i hi x v gv hd K hK
          have hi8 : i = 0 ∨ i = 1 ∨ i = 2 ∨ i = 3 ∨ i = 4 ∨ i = 5 ∨ i = 6 ∨ i = 7 ∨ i = 8 ∨ i = 9 ∨ i = 10 ∨ i = 11 ∨ i = 12 ∨ i = 13 ∨ i = 14 ∨ i = 15 ∨ i = 16 ∨ i = 17 ∨ i = 18 ∨ i = 19 := by omega
          rcases hi8 with rfl | rfl | rfl | rfl | rfl | rfl | rfl | rfl | rfl | rfl | rfl | rfl | rfl | rfl | rfl | rfl | rfl | rfl | rfl | rfl
          ·dsimp only [upd, Nat.reduceBEq, cond_true, cond_false]
           refine wpOp_step rfl (fun K' hK' => ?_)
           go_simp
           exact hK' _ _ (hK _ _ (Below.refl _ _) (at_of rfl (rfl)))
          ·obtain ⟨x, rfl⟩ := upd_of (show x 0 = .slice (some ⟨n15_, 0, none⟩) 3 3 from hd 0 _ (by simp) rfl)
           dsimp only [upd, Nat.reduceBEq, cond_true, cond_false]
           refine wpOp_step rfl (fun K' hK' => ?_)
           go_simp
           exact hK' _ _ (hK _ _ (Below.refl _ _) (at_of rfl (rfl)))
          ·obtain ⟨x, rfl⟩ := upd_of (show x 1 = .pointer (some ⟨n15_, 2, none⟩) from hd 1 _ (by simp) rfl)
           dsimp only [upd, Nat.reduceBEq, cond_true, cond_false]
           refine wpOp_step rfl (fun K' hK' => ?_)
           have q := (oT.1.keep gv).2 2 _ rfl
           go_simp
           exact hK' _ _ (hK _ _ (Below.refl _ _) (at_of rfl (rfl)))
          ·dsimp only [upd, Nat.reduceBEq, cond_true, cond_false]
           refine wpOp_step rfl (fun K' hK' => ?_)
           go_simp
           exact hK' _ _ (hK _ _ (Below.refl _ _) (at_of rfl (rfl)))
          ·obtain ⟨x, rfl⟩ := upd_of (show x 3 = .slice (some ⟨n15_, 0, none⟩) 3 3 from hd 3 _ (by simp) rfl)
           dsimp only [upd, Nat.reduceBEq, cond_true, cond_false]
           refine wpOp_step rfl (fun K' hK' => ?_)
           go_simp
           exact hK' _ _ (hK _ _ (Below.refl _ _) (at_of rfl (rfl)))
          ·obtain ⟨x, rfl⟩ := upd_of (show x 4 = .pointer (some ⟨n15_, 0, none⟩) from hd 4 _ (by simp) rfl)
           dsimp only [upd, Nat.reduceBEq, cond_true, cond_false]
           refine wpOp_step rfl (fun K' hK' => ?_)
           have q := (oT.1.keep gv).2 0 _ rfl
           go_simp
           exact hK' _ _ (hK _ _ (Below.refl _ _) (at_of rfl (rfl)))
          ·dsimp only [upd, Nat.reduceBEq, cond_true, cond_false]
           refine wpOp_step rfl (fun K' hK' => ?_)
           go_simp
           exact hK' _ _ (hK _ _ (Below.refl _ _) (at_of rfl (rfl)))
          ·obtain ⟨x, rfl⟩ := upd_of (show x 6 = .pointer (some ⟨(w.heap.size + 1 + 1), 2, none⟩) from hd 6 _ (by simp) rfl)
           dsimp only [upd, Nat.reduceBEq, cond_true, cond_false]
           refine wpOp_step rfl (fun K' hK' => ?_)
           have q := (h3.keep gv).2 2 _ rfl
           go_simp
           exact hK' _ _ (hK _ _ (Below.refl _ _) (at_of rfl (rfl)))
          ·obtain ⟨x, rfl⟩ := upd_of (show x 7 = .int .u8 v2 from hd 7 _ (by simp) rfl)
           dsimp only [upd, Nat.reduceBEq, cond_true, cond_false]
           refine wpOp_step rfl (fun K' hK' => ?_)
           go_simp
           exact hK' _ _ (hK _ _ (Below.refl _ _) (at_of rfl (rfl)))
          ·obtain ⟨x, rfl⟩ := upd_of (show x 5 = .int .i64 T0 from hd 5 _ (by simp) rfl)
           obtain ⟨x, rfl⟩ := upd_of (show x 8 = .int .i64 v2 from hd 8 _ (by simp) rfl)
           dsimp only [upd, Nat.reduceBEq, cond_true, cond_false]
           refine wpOp_step rfl (fun K' hK' => ?_)
           go_simp
           exact hK' _ _ (hK _ _ (Below.refl _ _) (at_of rfl (rfl)))
          ·obtain ⟨x, rfl⟩ := upd_of (show x 9 = .int .i64 D0 from hd 9 _ (by simp) rfl)
           dsimp only [upd, Nat.reduceBEq, cond_true, cond_false]
           refine wpOp_step rfl (fun K' hK' => ?_)
           go_simp
           exact hK' _ _ (hK _ _ (Below.refl _ _) (at_of rfl (rfl)))
          ·dsimp only [upd, Nat.reduceBEq, cond_true, cond_false]
           refine wpOp_step rfl (fun K' hK' => ?_)
           go_simp
           exact hK' _ _ (hK _ _ (Below.refl _ _) (at_of rfl (rfl)))
          ·obtain ⟨x, rfl⟩ := upd_of (show x 11 = .slice (some ⟨n15_, 0, none⟩) 3 3 from hd 11 _ (by simp) rfl)
           dsimp only [upd, Nat.reduceBEq, cond_true, cond_false]
           refine wpOp_step rfl (fun K' hK' => ?_)
           go_simp
           exact hK' _ _ (hK _ _ (Below.refl _ _) (at_of rfl (rfl)))
          ·obtain ⟨x, rfl⟩ := upd_of (show x 12 = .pointer (some ⟨n15_, 1, none⟩) from hd 12 _ (by simp) rfl)
           dsimp only [upd, Nat.reduceBEq, cond_true, cond_false]
           refine wpOp_step rfl (fun K' hK' => ?_)
           have q := (oT.1.keep gv).2 1 _ rfl
           go_simp
           exact hK' _ _ (hK _ _ (Below.refl _ _) (at_of rfl (rfl)))
          ·dsimp only [upd, Nat.reduceBEq, cond_true, cond_false]
           refine wpOp_step rfl (fun K' hK' => ?_)
           go_simp
           exact hK' _ _ (hK _ _ (Below.refl _ _) (at_of rfl (rfl)))
          ·obtain ⟨x, rfl⟩ := upd_of (show x 14 = .pointer (some ⟨(w.heap.size + 1 + 1), 3, none⟩) from hd 14 _ (by simp) rfl)
           dsimp only [upd, Nat.reduceBEq, cond_true, cond_false]
           refine wpOp_step rfl (fun K' hK' => ?_)
           have q := (h3.keep gv).2 3 _ rfl
           go_simp
           exact hK' _ _ (hK _ _ (Below.refl _ _) (at_of rfl (rfl)))
          ·obtain ⟨x, rfl⟩ := upd_of (show x 15 = .int .u8 v3 from hd 15 _ (by simp) rfl)
           dsimp only [upd, Nat.reduceBEq, cond_true, cond_false]
           refine wpOp_step rfl (fun K' hK' => ?_)
           go_simp
           exact hK' _ _ (hK _ _ (Below.refl _ _) (at_of rfl (rfl)))
          ·obtain ⟨x, rfl⟩ := upd_of (show x 13 = .int .i64 T1 from hd 13 _ (by simp) rfl)
           obtain ⟨x, rfl⟩ := upd_of (show x 16 = .int .i64 v3 from hd 16 _ (by simp) rfl)
           dsimp only [upd, Nat.reduceBEq, cond_true, cond_false]
           refine wpOp_step rfl (fun K' hK' => ?_)
           go_simp
           exact hK' _ _ (hK _ _ (Below.refl _ _) (at_of rfl (rfl)))
          ·obtain ⟨x, rfl⟩ := upd_of (show x 17 = .int .i64 D1 from hd 17 _ (by simp) rfl)
           dsimp only [upd, Nat.reduceBEq, cond_true, cond_false]
           refine wpOp_step rfl (fun K' hK' => ?_)
           go_simp
           exact hK' _ _ (hK _ _ (Below.refl _ _) (at_of rfl (rfl)))
          ·obtain ⟨x, rfl⟩ := upd_of (show x 2 = .int .i64 T2 from hd 2 _ (by simp) rfl)
           obtain ⟨x, rfl⟩ := upd_of (show x 10 = .int .i64 (max 0 D0) from hd 10 _ (by simp) rfl)
           obtain ⟨x, rfl⟩ := upd_of (show x 18 = .int .i64 (max 0 D1) from hd 18 _ (by simp) rfl)
           dsimp only [upd, Nat.reduceBEq, cond_true, cond_false]
           refine wpOp_step rfl (fun K' hK' => ?_)
           go_simp
           have hg := Gr.al v (.cells (List.toArray [.int .i64 T2, .int .i64 (max 0 D0), .int .i64 (max 0 D1)]) 3)
           exact hK' _ _ (hK _ _ hg (at_of rfl (⟨_, rfl, Own.new v [.int .i64 T2, .int .i64 (max 0 D0), .int .i64 (max 0 D1)] 3 v.heap.size rfl⟩)))
         case fin22 =>
          rintro x v gv hd
          obtain ⟨n19_, e19, r19⟩ := hd 19 _ (by omega) rfl
          obtain ⟨x, rfl⟩ := upd_of (show x 19 = .slice (some ⟨n19_, 0, none⟩) 3 3 from e19)
          clear hd
          show wpList Try.prog _ _ (List.drop 20 _) (⟨#[_, _, _, _, _, _, _, _, _, _, _, _, _, _, _, _, _, _, _, _, _, _, _, _, _, _, _, _, _, _, _, _, _, _, _, _, _, _, _, _, _, _, _, _, _, _, _, _, _, _, _, _, _, _, _, _, _, _, _, _, _, _, _, _, _, _, _, _, _, _, _, _, _, _, _, _, _, _, _, _, _, _, _, _, _, _, _, _, _, _, _, _, _, _, _, _, _, _, _, _, _, _, _, _, _, _, _, _, _, _, _, _, _, _, _, _, _, _, _, _, _, _, _, _, _, _, _, _, _, _, _, _, _, _, _, _, _, _, _, _, _, _, _, _, _, _, _, _, _, _, _, _, _, _, _, _, _, _, _, _, _, _, _, _, _, _, _, _, _, _, _, _, _, _, _, _, _, _, _, _, _, _, _, _, _, _, _, _, _, _, _, _, _, _, _, _, _, _, _, _, _, _, _, _, _, _, _, _, _, _, _, _, _, _, _, _, _, _, _, _, _, _, _, _, _, _, _, _, _, _, _, _, _, _, _, _, _, _, x 0, x 1, x 2, x 3, x 4, x 5, x 6, x 7, x 8, x 9, x 10, x 11, x 12, x 13, x 14, x 15, x 16, x 17, x 18, .slice (some ⟨n19_, 0, none⟩) 3 3, _, _, _, _, _, _, _, _, _, _, _, _, _, _, _, _, _, _, _, _, _, _, _, _, _, _, _, _, _, _, _, _, _, _, _, _, _, _, _, _, _, _, _, _, _, _, _, _, _, _, _, _, _, _, _, _, _, _, _, _, _, _, _, _, _, _, _, _, _, _, _, _, _, _, _, _], []⟩ : Act) v
          simp only [List.drop_succ_cons, List.drop_zero]
          replace gU := gU.tr gv
          replace h3 := h3.keep gv
          replace oL := oL.keep gv
          replace oA := oA.keep gv
          replace r3 := r3.grow gv
          replace r7 := r7.grow gv
          replace r11 := r11.grow gv
          replace oT := oT.keep gv
          have oU := r19
          clear r19 e19 gv
          go_upto_region 23 with fail
          refine (show (∀ sf : Nat → Value, Code.wp Try.prog _ _ ⟨#[sf 0, sf 1, sf 2, sf 3, sf 4, .pointer (some ⟨(w.heap.size + 1 + 1), 0, none⟩), sf 6, .pointer (some ⟨v8, 0, none⟩), sf 8, .pointer (some ⟨v10, 0, none⟩), sf 10, sf 11, sf 12, .int .i64 less, sf 14, sf 15, sf 16, sf 17, sf 18, sf 19, sf 20, sf 21, sf 22, .slice (some ⟨n15_, 0, none⟩) 3 3, .slice (some ⟨n19_, 0, none⟩) 3 3, undef, undef, undef, undef, undef, undef, undef, undef, undef, undef, sf 35, sf 36, sf 37, sf 38, sf 39, sf 40, sf 41, sf 42, sf 43, sf 44, sf 45, sf 46, sf 47, sf 48, sf 49, sf 50, sf 51, sf 52, sf 53, sf 54, sf 55, sf 56, sf 57, sf 58, sf 59, sf 60, sf 61, sf 62, sf 63, sf 64, sf 65, sf 66, sf 67, sf 68, sf 69, sf 70, sf 71, sf 72, sf 73, sf 74, sf 75, sf 76, sf 77, sf 78, sf 79, sf 80, sf 81, sf 82, sf 83, sf 84, sf 85, sf 86, sf 87, sf 88, sf 89, sf 90, sf 91, sf 92, sf 93, sf 94, sf 95, sf 96, sf 97, sf 98, sf 99, sf 100, sf 101, sf 102, sf 103, sf 104, sf 105, sf 106, sf 107, sf 108, sf 109, sf 110, sf 111, sf 112, sf 113, sf 114, sf 115, sf 116, sf 117, sf 118, sf 119, sf 120, sf 121, sf 122, sf 123, sf 124, sf 125, sf 126, sf 127, sf 128, sf 129, sf 130, sf 131, sf 132, sf 133, sf 134, sf 135, sf 136, sf 137, sf 138, sf 139, sf 140, sf 141, sf 142, sf 143, sf 144, sf 145, sf 146, sf 147, sf 148, sf 149, sf 150, sf 151, sf 152, sf 153, sf 154, sf 155, sf 156, sf 157, sf 158, sf 159, sf 160, sf 161, sf 162, sf 163, sf 164, sf 165, sf 166, sf 167, sf 168, sf 169, sf 170, sf 171, sf 172, sf 173, sf 174, sf 175, sf 176, sf 177, sf 178, sf 179, sf 180, sf 181, sf 182, sf 183, sf 184, sf 185, sf 186, sf 187, sf 188, sf 189, sf 190, sf 191, sf 192, sf 193, sf 194, sf 195, sf 196, sf 197, sf 198, sf 199, sf 200, sf 201, sf 202, sf 203, sf 204, sf 205, sf 206, sf 207, sf 208, sf 209, sf 210, sf 211, sf 212, sf 213, sf 214, sf 215, sf 216, sf 217, sf 218, sf 219, sf 220, sf 221, sf 222, sf 223, sf 224, sf 225, sf 226, sf 227, sf 228, sf 229, sf 230, sf 231, sf 232, sf 233, sf 234, sf 235, sf 236, sf 237, sf 238, sf 239, sf 240, sf 241, sf 242, sf 243, sf 244, sf 245, sf 246, sf 247, sf 248, sf 249, sf 250, sf 251, sf 252, sf 253, sf 254, sf 255, sf 256, sf 257, undef, undef, undef, undef, undef, undef, undef, undef, undef, undef, undef, undef, undef, undef, undef, undef, undef, undef, undef, undef, undef, undef, undef, undef, undef, undef, undef, undef, undef, undef, undef, undef, undef, undef, undef, undef, undef, undef, undef, undef, undef, undef, undef, undef, undef, undef, undef, undef, undef, undef, undef, undef, undef, undef, undef, undef, undef, undef, undef, undef, undef, undef, undef, undef, undef, undef, undef, undef, undef, undef, undef, undef, undef, undef, undef, undef], []⟩ _) → _ from fun h => h ((fun l : List Value => fun i => l.getD i undef) [_, _, _, _, _, undef, _, undef, _, undef, _, _, _, undef, _, _, _, _, _, _, _, _, _, undef, undef, undef, undef, undef, undef, undef, undef, undef, undef, undef, undef, _, _, _, _, _, _, _, _, _, _, _, _, _, _, _, _, _, _, _, _, _, _, _, _, _, _, _, _, _, _, _, _, _, _, _, _, _, _, _, _, _, _, _, _, _, _, _, _, _, _, _, _, _, _, _, _, _, _, _, _, _, _, _, _, _, _, _, _, _, _, _, _, _, _, _, _, _, _, _, _, _, _, _, _, _, _, _, _, _, _, _, _, _, _, _, _, _, _, _, _, _, _, _, _, _, _, _, _, _, _, _, _, _, _, _, _, _, _, _, _, _, _, _, _, _, _, _, _, _, _, _, _, _, _, _, _, _, _, _, _, _, _, _, _, _, _, _, _, _, _, _, _, _, _, _, _, _, _, _, _, _, _, _, _, _, _, _, _, _, _, _, _, _, _, _, _, _, _, _, _, _, _, _, _, _, _, _, _, _, _, _, _, _, _, _, _, _, _, _, _, _, _, _, _, _, _, _, _, _, _, _, _, _, _, _, _, _, _, _, _, _, _, _])) ?_
          intro sf
          dsimp only
          refine wp_region_facts 12 [(1, 0), (4, 3), (5, 1), (5, 2), (5, 4), (6, 5), (7, 6), (8, 6), (9, 6), (10, 7), (11, 8)] (fun x => ⟨#[sf 0, sf 1, sf 2, sf 3, sf 4, .pointer (some ⟨(w.heap.size + 1 + 1), 0, none⟩), sf 6, .pointer (some ⟨v8, 0, none⟩), sf 8, .pointer (some ⟨v10, 0, none⟩), sf 10, sf 11, sf 12, .int .i64 less, sf 14, sf 15, sf 16, sf 17, sf 18, sf 19, sf 20, sf 21, sf 22, .slice (some ⟨n15_, 0, none⟩) 3 3, .slice (some ⟨n19_, 0, none⟩) 3 3, x 10, x 11, undef, undef, undef, undef, undef, undef, undef, undef, sf 35, sf 36, sf 37, sf 38, sf 39, sf 40, sf 41, sf 42, sf 43, sf 44, sf 45, sf 46, sf 47, sf 48, sf 49, sf 50, sf 51, sf 52, sf 53, sf 54, sf 55, sf 56, sf 57, sf 58, sf 59, sf 60, sf 61, sf 62, sf 63, sf 64, sf 65, sf 66, sf 67, sf 68, sf 69, sf 70, sf 71, sf 72, sf 73, sf 74, sf 75, sf 76, sf 77, sf 78, sf 79, sf 80, sf 81, sf 82, sf 83, sf 84, sf 85, sf 86, sf 87, sf 88, sf 89, sf 90, sf 91, sf 92, sf 93, sf 94, sf 95, sf 96, sf 97, sf 98, sf 99, sf 100, sf 101, sf 102, sf 103, sf 104, sf 105, sf 106, sf 107, sf 108, sf 109, sf 110, sf 111, sf 112, sf 113, sf 114, sf 115, sf 116, sf 117, sf 118, sf 119, sf 120, sf 121, sf 122, sf 123, sf 124, sf 125, sf 126, sf 127, sf 128, sf 129, sf 130, sf 131, sf 132, sf 133, sf 134, sf 135, sf 136, sf 137, sf 138, sf 139, sf 140, sf 141, sf 142, sf 143, sf 144, sf 145, sf 146, sf 147, sf 148, sf 149, sf 150, sf 151, sf 152, sf 153, sf 154, sf 155, sf 156, sf 157, sf 158, sf 159, sf 160, sf 161, sf 162, sf 163, sf 164, sf 165, sf 166, sf 167, sf 168, sf 169, sf 170, sf 171, sf 172, sf 173, sf 174, sf 175, sf 176, sf 177, sf 178, sf 179, sf 180, sf 181, sf 182, sf 183, sf 184, sf 185, sf 186, sf 187, sf 188, sf 189, sf 190, sf 191, sf 192, sf 193, sf 194, sf 195, sf 196, sf 197, sf 198, sf 199, sf 200, sf 201, sf 202, sf 203, sf 204, sf 205, sf 206, sf 207, sf 208, sf 209, sf 210, sf 211, sf 212, sf 213, sf 214, sf 215, sf 216, sf 217, sf 218, sf 219, sf 220, sf 221, sf 222, sf 223, sf 224, sf 225, sf 226, sf 227, sf 228, sf 229, sf 230, sf 231, sf 232, sf 233, sf 234, sf 235, sf 236, sf 237, sf 238, sf 239, sf 240, sf 241, sf 242, sf 243, sf 244, sf 245, sf 246, sf 247, sf 248, sf 249, sf 250, sf 251, sf 252, sf 253, sf 254, sf 255, sf 256, sf 257, x 6, x 0, x 1, x 2, x 3, x 4, x 5, x 7, x 8, x 9, undef, undef, undef, undef, undef, undef, undef, undef, undef, undef, undef, undef, undef, undef, undef, undef, undef, undef, undef, undef, undef, undef, undef, undef, undef, undef, undef, undef, undef, undef, undef, undef, undef, undef, undef, undef, undef, undef, undef, undef, undef, undef, undef, undef, undef, undef, undef, undef, undef, undef, undef, undef, undef, undef, undef, undef, undef, undef, undef, undef, undef, undef, undef, undef, undef, undef], []⟩) (fun _ => undef) [fun _ x => x = .agg #[.int .i64 30, .slice ka3 4 kc3, .int .i64 hei, .slice ka7 2 kc7, .slice ka11 2 kc11, .int .i64 9, .bool o], fun v x => ∃ naa3 nac3 naa7 nac7 naa11 nac11, x = .agg #[.int .i64 30, .slice naa3 4 nac3, .int .i64 hei, .slice naa7 2 nac7, .slice naa11 2 nac11, .int .i64 9, .bool o] ∧ (IRow v naa3 [a0, a1, a2, a3] ∧ IRow v naa7 [t0, t1] ∧ IRow v naa11 [s0, s1]), fun _ x => x = .agg #[.int .i64 cl, .int .i64 ch], fun _ x => x = .slice (some ⟨n15_, 0, none⟩) 3 3, fun v x => ∃ a c, x = .slice a 3 c ∧ IRow v a [T0, T1, T2], fun _ x => x = .tuple #[.bool true, .bool true, .int .i64 0], fun _ x => x = .tuple #[.bool true, .bool true, .int .i64 0], fun _ x => x = .bool true, fun _ x => x = .bool true, fun _ x => x = .int .i64 0, fun _ x => x = .bool true, fun _ x => x = .bool true] (by rfl) (by kernel_rfl) (by kernel_rfl) (by kernel_rfl) (stays_cons (Stays.eq _) (stays_cons ((show Stays (fun v x => ∃ naa3 nac3 naa7 nac7 naa11 nac11, x = .agg #[.int .i64 30, .slice naa3 4 nac3, .int .i64 hei, .slice naa7 2 nac7, .slice naa11 2 nac11, .int .i64 9, .bool o] ∧ (IRow v naa3 [a0, a1, a2, a3] ∧ IRow v naa7 [t0, t1] ∧ IRow v naa11 [s0, s1])) from fun v v' x g ⟨a, b, c, d, e, f, h, r1, r2, r3⟩ => ⟨a, b, c, d, e, f, h, r1.grow g, r2.grow g, r3.grow g⟩)) (stays_cons (Stays.eq _) (stays_cons (Stays.eq _) (stays_cons ((show Stays (fun v x => ∃ a c, x = .slice a 3 c ∧ IRow v a [T0, T1, T2]) from fun v v' x g ⟨a, c, e, r⟩ => ⟨a, c, e, r.grow g⟩)) (stays_cons (Stays.eq _) (stays_cons (Stays.eq _) (stays_cons (Stays.eq _) (stays_cons (Stays.eq _) (stays_cons (Stays.eq _) (stays_cons (Stays.eq _) (stays_cons (Stays.eq _) stays_nil)))))))))))) ?step23 ?fin23
          case step23 => as_aux_lemma =>
           rintro i hi x v gv hd K hK
           have hi8 : i = 0 ∨ i = 1 ∨ i = 2 ∨ i = 3 ∨ i = 4 ∨ i = 5 ∨ i = 6 ∨ i = 7 ∨ i = 8 ∨ i = 9 ∨ i = 10 ∨ i = 11 := by omega
           rcases hi8 with rfl | rfl | rfl | rfl | rfl | rfl | rfl | rfl | rfl | rfl | rfl | rfl
           ·dsimp only [upd, Nat.reduceBEq, cond_true, cond_false]
            refine wpOp_step rfl (fun K' hK' => ?_)
            rw [if_pos (by rfl)]
            refine wp_load_mid 24 _ rfl v8 0 (by rfl) [.int .i64 30, .slice ka3 4 kc3, .int .i64 hei, .slice ka7 2 kc7, .slice ka11 2 kc11, .int .i64 9, .bool o] _ (fun j u hu => by rw [Nat.zero_add]; exact (oL.keep gv).2 j u hu) Try.underlying24 rfl (by kernel_rfl) ?_
            exact hK' _ _ (hK _ _ (Below.refl _ _) (at_of rfl (rfl)))
           ·obtain ⟨x, rfl⟩ := upd_of (show x 0 = .agg #[.int .i64 30, .slice ka3 4 kc3, .int .i64 hei, .slice ka7 2 kc7, .slice ka11 2 kc11, .int .i64 9, .bool o] from hd 0 _ (by simp) rfl)
            dsimp only [upd, Nat.reduceBEq, cond_true, cond_false]
            refine wpOp_step rfl (fun K' hK' => ?_)
            go_simp
            refine (own4_any a0 a1 a2 a3 t0 t1 s0 s1 hei o _ _ _ _ _ _ v (r3.grow gv) (r7.grow gv) (r11.grow gv)).mono ?_
            rintro e v' ⟨w3, b3, w7, b7, w11, b11, rfl, hg, r1, r2, r3⟩
            exact hK' _ _ (hK _ _ hg (at_of rfl (⟨_, _, _, _, _, _, rfl, r1, r2, r3⟩)))
           ·dsimp only [upd, Nat.reduceBEq, cond_true, cond_false]
            refine wpOp_step rfl (fun K' hK' => ?_)
            rw [if_pos (by rfl)]
            refine wp_load_mid 37 _ rfl v10 0 (by rfl) [.int .i64 cl, .int .i64 ch] _ (fun j u hu => by rw [Nat.zero_add]; exact (oA.keep gv).2 j u hu) Try.underlying37 rfl (by kernel_rfl) ?_
            exact hK' _ _ (hK _ _ (Below.refl _ _) (at_of rfl (rfl)))
           ·dsimp only [upd, Nat.reduceBEq, cond_true, cond_false]
            refine wpOp_step rfl (fun K' hK' => ?_)
            go_simp
            exact hK' _ _ (hK _ _ (Below.refl _ _) (at_of rfl (rfl)))
           ·obtain ⟨x, rfl⟩ := upd_of (show x 3 = .slice (some ⟨n15_, 0, none⟩) 3 3 from hd 3 _ (by simp) rfl)
            dsimp only [upd, Nat.reduceBEq, cond_true, cond_false]
            refine wpOp_step rfl (fun K' hK' => ?_)
            go_simp
            refine (ints3_any T0 T1 T2 _ _ v (Own.row (l := [T0, T1, T2]) (oT.keep gv) (by simp))).mono ?_
            rintro e v' ⟨a9, c9, rfl, hg, r⟩
            exact hK' _ _ (hK _ _ hg (at_of rfl (⟨_, _, rfl, r⟩)))
           ·obtain ⟨naa3, nac3, naa7, nac7, naa11, nac11, e1, r1⟩ := hd 1 _ (by simp) rfl
            obtain ⟨x, rfl⟩ := upd_of (show x 1 = .agg #[.int .i64 30, .slice naa3 4 nac3, .int .i64 hei, .slice naa7 2 nac7, .slice naa11 2 nac11, .int .i64 9, .bool o] from e1)
            obtain ⟨x, rfl⟩ := upd_of (show x 2 = .agg #[.int .i64 cl, .int .i64 ch] from hd 2 _ (by simp) rfl)
            obtain ⟨ta9, tc9, e4, r4⟩ := hd 4 _ (by simp) rfl
            obtain ⟨x, rfl⟩ := upd_of (show x 4 = .slice ta9 3 tc9 from e4)
            dsimp only [upd, Nat.reduceBEq, cond_true, cond_false]
            refine wpOp_step rfl (fun K' hK' => ?_)
            go_simp
            refine (HO1.out _ _ _ _ _ _ _ _ v r1.1 r1.2.1 r1.2.2 r4 true true F1.out F2.out).mono ?_
            rintro e v' ⟨rfl, hg⟩
            exact hK' _ _ (hK _ _ hg (at_of rfl (rfl)))
           ·obtain ⟨x, rfl⟩ := upd_of (show x 5 = .tuple #[.bool true, .bool true, .int .i64 0] from hd 5 _ (by simp) rfl)
            dsimp only [upd, Nat.reduceBEq, cond_true, cond_false]
            refine wpOp_step rfl (fun K' hK' => ?_)
            go_simp
            exact hK' _ _ (hK _ _ (Below.refl _ _) (at_of rfl (rfl)))
           ·obtain ⟨x, rfl⟩ := upd_of (show x 6 = .tuple #[.bool true, .bool true, .int .i64 0] from hd 6 _ (by simp) rfl)
            dsimp only [upd, Nat.reduceBEq, cond_true, cond_false]
            refine wpOp_step rfl (fun K' hK' => ?_)
            go_simp
            exact hK' _ _ (hK _ _ (Below.refl _ _) (at_of rfl (rfl)))
           ·obtain ⟨x, rfl⟩ := upd_of (show x 6 = .tuple #[.bool true, .bool true, .int .i64 0] from hd 6 _ (by simp) rfl)
            dsimp only [upd, Nat.reduceBEq, cond_true, cond_false]
            refine wpOp_step rfl (fun K' hK' => ?_)
            go_simp
            exact hK' _ _ (hK _ _ (Below.refl _ _) (at_of rfl (rfl)))
           ·obtain ⟨x, rfl⟩ := upd_of (show x 6 = .tuple #[.bool true, .bool true, .int .i64 0] from hd 6 _ (by simp) rfl)
            dsimp only [upd, Nat.reduceBEq, cond_true, cond_false]
            refine wpOp_step rfl (fun K' hK' => ?_)
            go_simp
            exact hK' _ _ (hK _ _ (Below.refl _ _) (at_of rfl (rfl)))
           ·obtain ⟨x, rfl⟩ := upd_of (show x 7 = .bool true from hd 7 _ (by simp) rfl)
            dsimp only [upd, Nat.reduceBEq, cond_true, cond_false]
            refine wpOp_step rfl (fun K' hK' => ?_)
            go_simp
            exact hK' _ _ (hK _ _ (Below.refl _ _) (at_of rfl (rfl)))
           ·obtain ⟨x, rfl⟩ := upd_of (show x 8 = .bool true from hd 8 _ (by simp) rfl)
            dsimp only [upd, Nat.reduceBEq, cond_true, cond_false]
            refine wpOp_step rfl (fun K' hK' => ?_)
            go_simp
            exact hK' _ _ (hK _ _ (Below.refl _ _) (at_of rfl (rfl)))
          case fin23 =>
           rintro x v gv hd
           obtain ⟨x, rfl⟩ := upd_of (show x 9 = .int .i64 0 from hd 9 _ (by omega) rfl)
           obtain ⟨x, rfl⟩ := upd_of (show x 10 = .bool true from hd 10 _ (by omega) rfl)
           obtain ⟨x, rfl⟩ := upd_of (show x 11 = .bool true from hd 11 _ (by omega) rfl)
           clear hd
           show wpList Try.prog _ _ (List.drop 12 _) (⟨#[_, _, _, _, _, _, _, _, _, _, _, _, _, _, _, _, _, _, _, _, _, _, _, _, _, .bool true, .bool true, _, _, _, _, _, _, _, _, _, _, _, _, _, _, _, _, _, _, _, _, _, _, _, _, _, _, _, _, _, _, _, _, _, _, _, _, _, _, _, _, _, _, _, _, _, _, _, _, _, _, _, _, _, _, _, _, _, _, _, _, _, _, _, _, _, _, _, _, _, _, _, _, _, _, _, _, _, _, _, _, _, _, _, _, _, _, _, _, _, _, _, _, _, _, _, _, _, _, _, _, _, _, _, _, _, _, _, _, _, _, _, _, _, _, _, _, _, _, _, _, _, _, _, _, _, _, _, _, _, _, _, _, _, _, _, _, _, _, _, _, _, _, _, _, _, _, _, _, _, _, _, _, _, _, _, _, _, _, _, _, _, _, _, _, _, _, _, _, _, _, _, _, _, _, _, _, _, _, _, _, _, _, _, _, _, _, _, _, _, _, _, _, _, _, _, _, _, _, _, _, _, _, _, _, _, _, _, _, _, _, _, _, _, _, _, _, _, _, _, _, _, _, _, _, _, _, _, _, _, _, _, x 6, x 0, x 1, x 2, x 3, x 4, x 5, x 7, x 8, .int .i64 0, _, _, _, _, _, _, _, _, _, _, _, _, _, _, _, _, _, _, _, _, _, _, _, _, _, _, _, _, _, _, _, _, _, _, _, _, _, _, _, _, _, _, _, _, _, _, _, _, _, _, _, _, _, _, _, _, _, _, _, _, _, _, _, _, _, _], []⟩ : Act) v
           simp only [List.drop_succ_cons, List.drop_zero]
           replace gU := gU.tr gv
           replace h3 := h3.keep gv
           replace oL := oL.keep gv
           replace oA := oA.keep gv
           replace r3 := r3.grow gv
           replace r7 := r7.grow gv
           replace r11 := r11.grow gv
           replace oT := oT.keep gv
           replace oU := oU.keep gv
           clear gv
           go_upto_region 24 with fail
           refine (show (∀ sg : Nat → Value, Code.wp Try.prog _ _ ⟨#[sg 0, sg 1, sg 2, sg 3, sg 4, .pointer (some ⟨(w.heap.size + 1 + 1), 0, none⟩), sg 6, .pointer (some ⟨v8, 0, none⟩), sg 8, .pointer (some ⟨v10, 0, none⟩), sg 10, sg 11, sg 12, .int .i64 less, sg 14, sg 15, sg 16, sg 17, sg 18, sg 19, sg 20, sg 21, sg 22, .slice (some ⟨n15_, 0, none⟩) 3 3, .slice (some ⟨n19_, 0, none⟩) 3 3, .bool true, .bool true, .int .i64 0, undef, undef, undef, undef, undef, undef, undef, sg 35, sg 36, sg 37, sg 38, sg 39, sg 40, sg 41, sg 42, sg 43, sg 44, sg 45, sg 46, sg 47, sg 48, sg 49, sg 50, sg 51, sg 52, sg 53, sg 54, sg 55, sg 56, sg 57, sg 58, sg 59, sg 60, sg 61, sg 62, sg 63, sg 64, sg 65, sg 66, sg 67, sg 68, sg 69, sg 70, sg 71, sg 72, sg 73, sg 74, sg 75, sg 76, sg 77, sg 78, sg 79, sg 80, sg 81, sg 82, sg 83, sg 84, sg 85, sg 86, sg 87, sg 88, sg 89, sg 90, sg 91, sg 92, sg 93, sg 94, sg 95, sg 96, sg 97, sg 98, sg 99, sg 100, sg 101, sg 102, sg 103, sg 104, sg 105, sg 106, sg 107, sg 108, sg 109, sg 110, sg 111, sg 112, sg 113, sg 114, sg 115, sg 116, sg 117, sg 118, sg 119, sg 120, sg 121, sg 122, sg 123, sg 124, sg 125, sg 126, sg 127, sg 128, sg 129, sg 130, sg 131, sg 132, sg 133, sg 134, sg 135, sg 136, sg 137, sg 138, sg 139, sg 140, sg 141, sg 142, sg 143, sg 144, sg 145, sg 146, sg 147, sg 148, sg 149, sg 150, sg 151, sg 152, sg 153, sg 154, sg 155, sg 156, sg 157, sg 158, sg 159, sg 160, sg 161, sg 162, sg 163, sg 164, sg 165, sg 166, sg 167, sg 168, sg 169, sg 170, sg 171, sg 172, sg 173, sg 174, sg 175, sg 176, sg 177, sg 178, sg 179, sg 180, sg 181, sg 182, sg 183, sg 184, sg 185, sg 186, sg 187, sg 188, sg 189, sg 190, sg 191, sg 192, sg 193, sg 194, sg 195, sg 196, sg 197, sg 198, sg 199, sg 200, sg 201, sg 202, sg 203, sg 204, sg 205, sg 206, sg 207, sg 208, sg 209, sg 210, sg 211, sg 212, sg 213, sg 214, sg 215, sg 216, sg 217, sg 218, sg 219, sg 220, sg 221, sg 222, sg 223, sg 224, sg 225, sg 226, sg 227, sg 228, sg 229, sg 230, sg 231, sg 232, sg 233, sg 234, sg 235, sg 236, sg 237, sg 238, sg 239, sg 240, sg 241, sg 242, sg 243, sg 244, sg 245, sg 246, sg 247, sg 248, sg 249, sg 250, sg 251, sg 252, sg 253, sg 254, sg 255, sg 256, sg 257, sg 258, sg 259, sg 260, sg 261, sg 262, sg 263, sg 264, sg 265, sg 266, sg 267, undef, undef, undef, undef, undef, undef, undef, undef, undef, undef, undef, undef, undef, undef, undef, undef, undef, undef, undef, undef, undef, undef, undef, undef, undef, undef, undef, undef, undef, undef, undef, undef, undef, undef, undef, undef, undef, undef, undef, undef, undef, undef, undef, undef, undef, undef, undef, undef, undef, undef, undef, undef, undef, undef, undef, undef, undef, undef, undef, undef, undef, undef, undef, undef, undef, undef], []⟩ _) → _ from fun h => h ((fun l : List Value => fun i => l.getD i undef) [_, _, _, _, _, undef, _, undef, _, undef, _, _, _, undef, _, _, _, _, _, _, _, _, _, undef, undef, undef, undef, undef, undef, undef, undef, undef, undef, undef, undef, _, _, _, _, _, _, _, _, _, _, _, _, _, _, _, _, _, _, _, _, _, _, _, _, _, _, _, _, _, _, _, _, _, _, _, _, _, _, _, _, _, _, _, _, _, _, _, _, _, _, _, _, _, _, _, _, _, _, _, _, _, _, _, _, _, _, _, _, _, _, _, _, _, _, _, _, _, _, _, _, _, _, _, _, _, _, _, _, _, _, _, _, _, _, _, _, _, _, _, _, _, _, _, _, _, _, _, _, _, _, _, _, _, _, _, _, _, _, _, _, _, _, _, _, _, _, _, _, _, _, _, _, _, _, _, _, _, _, _, _, _, _, _, _, _, _, _, _, _, _, _, _, _, _, _, _, _, _, _, _, _, _, _, _, _, _, _, _, _, _, _, _, _, _, _, _, _, _, _, _, _, _, _, _, _, _, _, _, _, _, _, _, _, _, _, _, _, _, _, _, _, _, _, _, _, _, _, _, _, _, _, _, _, _, _, _, _, _, _, _, _, _, _, _, _, _, _, _, _, _, _, _, _])) ?_
           intro sg
           dsimp only
           refine wp_region_facts 17 [(1, 0), (3, 2), (5, 3), (5, 4), (7, 6), (8, 5), (8, 7), (10, 1), (10, 8), (10, 9), (11, 10), (12, 11), (13, 11), (14, 11), (15, 12), (16, 13)] (fun x => ⟨#[sg 0, sg 1, sg 2, sg 3, sg 4, .pointer (some ⟨(w.heap.size + 1 + 1), 0, none⟩), sg 6, .pointer (some ⟨v8, 0, none⟩), sg 8, .pointer (some ⟨v10, 0, none⟩), sg 10, sg 11, sg 12, .int .i64 less, sg 14, sg 15, sg 16, sg 17, sg 18, sg 19, sg 20, sg 21, sg 22, .slice (some ⟨n15_, 0, none⟩) 3 3, .slice (some ⟨n19_, 0, none⟩) 3 3, .bool true, .bool true, .int .i64 0, x 15, x 16, undef, undef, undef, undef, undef, sg 35, sg 36, sg 37, sg 38, sg 39, sg 40, sg 41, sg 42, sg 43, sg 44, sg 45, sg 46, sg 47, sg 48, sg 49, sg 50, sg 51, sg 52, sg 53, sg 54, sg 55, sg 56, sg 57, sg 58, sg 59, sg 60, sg 61, sg 62, sg 63, sg 64, sg 65, sg 66, sg 67, sg 68, sg 69, sg 70, sg 71, sg 72, sg 73, sg 74, sg 75, sg 76, sg 77, sg 78, sg 79, sg 80, sg 81, sg 82, sg 83, sg 84, sg 85, sg 86, sg 87, sg 88, sg 89, sg 90, sg 91, sg 92, sg 93, sg 94, sg 95, sg 96, sg 97, sg 98, sg 99, sg 100, sg 101, sg 102, sg 103, sg 104, sg 105, sg 106, sg 107, sg 108, sg 109, sg 110, sg 111, sg 112, sg 113, sg 114, sg 115, sg 116, sg 117, sg 118, sg 119, sg 120, sg 121, sg 122, sg 123, sg 124, sg 125, sg 126, sg 127, sg 128, sg 129, sg 130, sg 131, sg 132, sg 133, sg 134, sg 135, sg 136, sg 137, sg 138, sg 139, sg 140, sg 141, sg 142, sg 143, sg 144, sg 145, sg 146, sg 147, sg 148, sg 149, sg 150, sg 151, sg 152, sg 153, sg 154, sg 155, sg 156, sg 157, sg 158, sg 159, sg 160, sg 161, sg 162, sg 163, sg 164, sg 165, sg 166, sg 167, sg 168, sg 169, sg 170, sg 171, sg 172, sg 173, sg 174, sg 175, sg 176, sg 177, sg 178, sg 179, sg 180, sg 181, sg 182, sg 183, sg 184, sg 185, sg 186, sg 187, sg 188, sg 189, sg 190, sg 191, sg 192, sg 193, sg 194, sg 195, sg 196, sg 197, sg 198, sg 199, sg 200, sg 201, sg 202, sg 203, sg 204, sg 205, sg 206, sg 207, sg 208, sg 209, sg 210, sg 211, sg 212, sg 213, sg 214, sg 215, sg 216, sg 217, sg 218, sg 219, sg 220, sg 221, sg 222, sg 223, sg 224, sg 225, sg 226, sg 227, sg 228, sg 229, sg 230, sg 231, sg 232, sg 233, sg 234, sg 235, sg 236, sg 237, sg 238, sg 239, sg 240, sg 241, sg 242, sg 243, sg 244, sg 245, sg 246, sg 247, sg 248, sg 249, sg 250, sg 251, sg 252, sg 253, sg 254, sg 255, sg 256, sg 257, sg 258, sg 259, sg 260, sg 261, sg 262, sg 263, sg 264, sg 265, sg 266, sg 267, x 11, x 0, x 1, x 2, x 3, x 4, x 5, x 6, x 7, x 8, x 9, x 10, x 12, x 13, x 14, undef, undef, undef, undef, undef, undef, undef, undef, undef, undef, undef, undef, undef, undef, undef, undef, undef, undef, undef, undef, undef, undef, undef, undef, undef, undef, undef, undef, undef, undef, undef, undef, undef, undef, undef, undef, undef, undef, undef, undef, undef, undef, undef, undef, undef, undef, undef, undef, undef, undef, undef], []⟩) (fun _ => undef) [fun _ x => x = .agg #[.int .i64 30, .slice ka3 4 kc3, .int .i64 hei, .slice ka7 2 kc7, .slice ka11 2 kc11, .int .i64 9, .bool o], fun v x => ∃ naa3 nac3 naa7 nac7 naa11 nac11, x = .agg #[.int .i64 30, .slice naa3 4 nac3, .int .i64 hei, .slice naa7 2 nac7, .slice naa11 2 nac11, .int .i64 9, .bool o] ∧ (IRow v naa3 [a0, a1, a2, a3] ∧ IRow v naa7 [t0, t1] ∧ IRow v naa11 [s0, s1]), fun _ x => x = .pointer (some ⟨v10, 0, none⟩), fun _ x => x = .int .i64 cl, fun _ x => x = .int .i64 less, fun _ x => x = .int .i64 k0, fun _ x => x = .pointer (some ⟨v10, 1, none⟩), fun _ x => x = .int .i64 ch, fun _ x => x = .agg #[.int .i64 k0, .int .i64 ch], fun _ x => x = .slice (some ⟨n19_, 0, none⟩) 3 3, fun _ x => x = .tuple #[.bool true, .bool true, .int .i64 0], fun _ x => x = .tuple #[.bool true, .bool true, .int .i64 0], fun _ x => x = .bool true, fun _ x => x = .bool true, fun _ x => x = .int .i64 0, fun _ x => x = .bool true, fun _ x => x = .bool true] (by rfl) (by kernel_rfl) (by kernel_rfl) (by kernel_rfl) (stays_cons (Stays.eq _) (stays_cons ((show Stays (fun v x => ∃ naa3 nac3 naa7 nac7 naa11 nac11, x = .agg #[.int .i64 30, .slice naa3 4 nac3, .int .i64 hei, .slice naa7 2 nac7, .slice naa11 2 nac11, .int .i64 9, .bool o] ∧ (IRow v naa3 [a0, a1, a2, a3] ∧ IRow v naa7 [t0, t1] ∧ IRow v naa11 [s0, s1])) from fun v v' x g ⟨a, b, c, d, e, f, h, r1, r2, r3⟩ => ⟨a, b, c, d, e, f, h, r1.grow g, r2.grow g, r3.grow g⟩)) (stays_cons (Stays.eq _) (stays_cons (Stays.eq _) (stays_cons (Stays.eq _) (stays_cons (Stays.eq _) (stays_cons (Stays.eq _) (stays_cons (Stays.eq _) (stays_cons (Stays.eq _) (stays_cons (Stays.eq _) (stays_cons (Stays.eq _) (stays_cons (Stays.eq _) (stays_cons (Stays.eq _) (stays_cons (Stays.eq _) (stays_cons (Stays.eq _) (stays_cons (Stays.eq _) (stays_cons (Stays.eq _) stays_nil))))))))))))))))) ?step24 ?fin24
           case step24 => as_aux_lemma =>
            rintro i hi x v gv hd K hK
            have hi8 : i = 0 ∨ i = 1 ∨ i = 2 ∨ i = 3 ∨ i = 4 ∨ i = 5 ∨ i = 6 ∨ i = 7 ∨ i = 8 ∨ i = 9 ∨ i = 10 ∨ i = 11 ∨ i = 12 ∨ i = 13 ∨ i = 14 ∨ i = 15 ∨ i = 16 := by omega
            rcases hi8 with rfl | rfl | rfl | rfl | rfl | rfl | rfl | rfl | rfl | rfl | rfl | rfl | rfl | rfl | rfl | rfl | rfl
            ·dsimp only [upd, Nat.reduceBEq, cond_true, cond_false]
             refine wpOp_step rfl (fun K' hK' => ?_)
             rw [if_pos (by rfl)]
             refine wp_load_mid 24 _ rfl v8 0 (by rfl) [.int .i64 30, .slice ka3 4 kc3, .int .i64 hei, .slice ka7 2 kc7, .slice ka11 2 kc11, .int .i64 9, .bool o] _ (fun j u hu => by rw [Nat.zero_add]; exact (oL.keep gv).2 j u hu) Try.underlying24 rfl (by kernel_rfl) ?_
             exact hK' _ _ (hK _ _ (Below.refl _ _) (at_of rfl (rfl)))
            ·obtain ⟨x, rfl⟩ := upd_of (show x 0 = .agg #[.int .i64 30, .slice ka3 4 kc3, .int .i64 hei, .slice ka7 2 kc7, .slice ka11 2 kc11, .int .i64 9, .bool o] from hd 0 _ (by simp) rfl)
             dsimp only [upd, Nat.reduceBEq, cond_true, cond_false]
             refine wpOp_step rfl (fun K' hK' => ?_)
             go_simp
             refine (own4_any a0 a1 a2 a3 t0 t1 s0 s1 hei o _ _ _ _ _ _ v (r3.grow gv) (r7.grow gv) (r11.grow gv)).mono ?_
             rintro e v' ⟨w3, b3, w7, b7, w11, b11, rfl, hg, r1, r2, r3⟩
             exact hK' _ _ (hK _ _ hg (at_of rfl (⟨_, _, _, _, _, _, rfl, r1, r2, r3⟩)))
            ·dsimp only [upd, Nat.reduceBEq, cond_true, cond_false]
             refine wpOp_step rfl (fun K' hK' => ?_)
             go_simp
             exact hK' _ _ (hK _ _ (Below.refl _ _) (at_of rfl (rfl)))
            ·obtain ⟨x, rfl⟩ := upd_of (show x 2 = .pointer (some ⟨v10, 0, none⟩) from hd 2 _ (by simp) rfl)
             dsimp only [upd, Nat.reduceBEq, cond_true, cond_false]
             refine wpOp_step rfl (fun K' hK' => ?_)
             have q := (oA.keep gv).2 0 _ rfl
             go_simp
             exact hK' _ _ (hK _ _ (Below.refl _ _) (at_of rfl (rfl)))
            ·dsimp only [upd, Nat.reduceBEq, cond_true, cond_false]
             refine wpOp_step rfl (fun K' hK' => ?_)
             go_simp
             exact hK' _ _ (hK _ _ (Below.refl _ _) (at_of rfl (rfl)))
            ·obtain ⟨x, rfl⟩ := upd_of (show x 3 = .int .i64 cl from hd 3 _ (by simp) rfl)
             obtain ⟨x, rfl⟩ := upd_of (show x 4 = .int .i64 less from hd 4 _ (by simp) rfl)
             dsimp only [upd, Nat.reduceBEq, cond_true, cond_false]
             refine wpOp_step rfl (fun K' hK' => ?_)
             go_simp
             exact hK' _ _ (hK _ _ (Below.refl _ _) (at_of rfl (rfl)))
            ·dsimp only [upd, Nat.reduceBEq, cond_true, cond_false]
             refine wpOp_step rfl (fun K' hK' => ?_)
             go_simp
             exact hK' _ _ (hK _ _ (Below.refl _ _) (at_of rfl (rfl)))
            ·obtain ⟨x, rfl⟩ := upd_of (show x 6 = .pointer (some ⟨v10, 1, none⟩) from hd 6 _ (by simp) rfl)
             dsimp only [upd, Nat.reduceBEq, cond_true, cond_false]
             refine wpOp_step rfl (fun K' hK' => ?_)
             have q := (oA.keep gv).2 1 _ rfl
             go_simp
             exact hK' _ _ (hK _ _ (Below.refl _ _) (at_of rfl (rfl)))
            ·obtain ⟨x, rfl⟩ := upd_of (show x 5 = .int .i64 k0 from hd 5 _ (by simp) rfl)
             obtain ⟨x, rfl⟩ := upd_of (show x 7 = .int .i64 ch from hd 7 _ (by simp) rfl)
             dsimp only [upd, Nat.reduceBEq, cond_true, cond_false]
             refine wpOp_step rfl (fun K' hK' => ?_)
             go_simp
             refine (span02_any k0 ch v).mono ?_
             rintro e v' ⟨rfl, hg⟩
             exact hK' _ _ (hK _ _ hg (at_of rfl (rfl)))
            ·dsimp only [upd, Nat.reduceBEq, cond_true, cond_false]
             refine wpOp_step rfl (fun K' hK' => ?_)
             go_simp
             exact hK' _ _ (hK _ _ (Below.refl _ _) (at_of rfl (rfl)))
            ·obtain ⟨naa3, nac3, naa7, nac7, naa11, nac11, e1, r1⟩ := hd 1 _ (by simp) rfl
             obtain ⟨x, rfl⟩ := upd_of (show x 1 = .agg #[.int .i64 30, .slice naa3 4 nac3, .int .i64 hei, .slice naa7 2 nac7, .slice naa11 2 nac11, .int .i64 9, .bool o] from e1)
             obtain ⟨x, rfl⟩ := upd_of (show x 8 = .agg #[.int .i64 k0, .int .i64 ch] from hd 8 _ (by simp) rfl)
             obtain ⟨x, rfl⟩ := upd_of (show x 9 = .slice (some ⟨n19_, 0, none⟩) 3 3 from hd 9 _ (by simp) rfl)
             dsimp only [upd, Nat.reduceBEq, cond_true, cond_false]
             refine wpOp_step rfl (fun K' hK' => ?_)
             go_simp
             refine (HO2.out _ _ _ _ _ _ _ _ v r1.1 r1.2.1 r1.2.2 (Own.row (l := [T2, max 0 D0, max 0 D1]) (oU.keep gv) (by simp)) true true F3.out F4.out).mono ?_
             rintro e v' ⟨rfl, hg⟩
             exact hK' _ _ (hK _ _ hg (at_of rfl (rfl)))
            ·obtain ⟨x, rfl⟩ := upd_of (show x 10 = .tuple #[.bool true, .bool true, .int .i64 0] from hd 10 _ (by simp) rfl)
             dsimp only [upd, Nat.reduceBEq, cond_true, cond_false]
             refine wpOp_step rfl (fun K' hK' => ?_)
             go_simp
             exact hK' _ _ (hK _ _ (Below.refl _ _) (at_of rfl (rfl)))
            ·obtain ⟨x, rfl⟩ := upd_of (show x 11 = .tuple #[.bool true, .bool true, .int .i64 0] from hd 11 _ (by simp) rfl)
             dsimp only [upd, Nat.reduceBEq, cond_true, cond_false]
             refine wpOp_step rfl (fun K' hK' => ?_)
             go_simp
             exact hK' _ _ (hK _ _ (Below.refl _ _) (at_of rfl (rfl)))
            ·obtain ⟨x, rfl⟩ := upd_of (show x 11 = .tuple #[.bool true, .bool true, .int .i64 0] from hd 11 _ (by simp) rfl)
             dsimp only [upd, Nat.reduceBEq, cond_true, cond_false]
             refine wpOp_step rfl (fun K' hK' => ?_)
             go_simp
             exact hK' _ _ (hK _ _ (Below.refl _ _) (at_of rfl (rfl)))
            ·obtain ⟨x, rfl⟩ := upd_of (show x 11 = .tuple #[.bool true, .bool true, .int .i64 0] from hd 11 _ (by simp) rfl)
             dsimp only [upd, Nat.reduceBEq, cond_true, cond_false]
             refine wpOp_step rfl (fun K' hK' => ?_)
             go_simp
             exact hK' _ _ (hK _ _ (Below.refl _ _) (at_of rfl (rfl)))
            ·obtain ⟨x, rfl⟩ := upd_of (show x 12 = .bool true from hd 12 _ (by simp) rfl)
             dsimp only [upd, Nat.reduceBEq, cond_true, cond_false]
             refine wpOp_step rfl (fun K' hK' => ?_)
             go_simp
             exact hK' _ _ (hK _ _ (Below.refl _ _) (at_of rfl (rfl)))
            ·obtain ⟨x, rfl⟩ := upd_of (show x 13 = .bool true from hd 13 _ (by simp) rfl)
             dsimp only [upd, Nat.reduceBEq, cond_true, cond_false]
             refine wpOp_step rfl (fun K' hK' => ?_)
             go_simp
             exact hK' _ _ (hK _ _ (Below.refl _ _) (at_of rfl (rfl)))
           case fin24 =>
            rintro x v gv hd
            obtain ⟨x, rfl⟩ := upd_of (show x 14 = .int .i64 0 from hd 14 _ (by omega) rfl)
            obtain ⟨x, rfl⟩ := upd_of (show x 15 = .bool true from hd 15 _ (by omega) rfl)
            obtain ⟨x, rfl⟩ := upd_of (show x 16 = .bool true from hd 16 _ (by omega) rfl)
            clear hd
            show wpList Try.prog _ _ (List.drop 17 _) (⟨#[_, _, _, _, _, _, _, _, _, _, _, _, _, _, _, _, _, _, _, _, _, _, _, _, _, _, _, _, .bool true, .bool true, _, _, _, _, _, _, _, _, _, _, _, _, _, _, _, _, _, _, _, _, _, _, _, _, _, _, _, _, _, _, _, _, _, _, _, _, _, _, _, _, _, _, _, _, _, _, _, _, _, _, _, _, _, _, _, _, _, _, _, _, _, _, _, _, _, _, _, _, _, _, _, _, _, _, _, _, _, _, _, _, _, _, _, _, _, _, _, _, _, _, _, _, _, _, _, _, _, _, _, _, _, _, _, _, _, _, _, _, _, _, _, _, _, _, _, _, _, _, _, _, _, _, _, _, _, _, _, _, _, _, _, _, _, _, _, _, _, _, _, _, _, _, _, _, _, _, _, _, _, _, _, _, _, _, _, _, _, _, _, _, _, _, _, _, _, _, _, _, _, _, _, _, _, _, _, _, _, _, _, _, _, _, _, _, _, _, _, _, _, _, _, _, _, _, _, _, _, _, _, _, _, _, _, _, _, _, _, _, _, _, _, _, _, _, _, _, _, _, _, _, _, _, _, _, _, _, _, _, _, _, _, _, _, _, _, _, _, _, x 11, x 0, x 1, x 2, x 3, x 4, x 5, x 6, x 7, x 8, x 9, x 10, x 12, x 13, .int .i64 0, _, _, _, _, _, _, _, _, _, _, _, _, _, _, _, _, _, _, _, _, _, _, _, _, _, _, _, _, _, _, _, _, _, _, _, _, _, _, _, _, _, _, _, _, _, _, _, _, _, _, _], []⟩ : Act) v
            simp only [List.drop_succ_cons, List.drop_zero]
            replace gU := gU.tr gv
            replace h3 := h3.keep gv
            replace oL := oL.keep gv
            replace oA := oA.keep gv
            replace r3 := r3.grow gv
            replace r7 := r7.grow gv
            replace r11 := r11.grow gv
            replace oT := oT.keep gv
            replace oU := oU.keep gv
            clear gv oU
            go_upto_region 25 with fail
            refine (show (∀ sh : Nat → Value, Code.wp Try.prog _ _ ⟨#[sh 0, sh 1, sh 2, sh 3, sh 4, .pointer (some ⟨(w.heap.size + 1 + 1), 0, none⟩), sh 6, .pointer (some ⟨v8, 0, none⟩), sh 8, .pointer (some ⟨v10, 0, none⟩), sh 10, sh 11, sh 12, sh 13, sh 14, sh 15, sh 16, sh 17, sh 18, sh 19, sh 20, sh 21, sh 22, .slice (some ⟨n15_, 0, none⟩) 3 3, sh 24, .bool true, .bool true, .int .i64 0, .bool true, .bool true, .int .i64 0, undef, undef, undef, undef, sh 35, sh 36, sh 37, sh 38, sh 39, sh 40, sh 41, sh 42, sh 43, sh 44, sh 45, sh 46, sh 47, sh 48, sh 49, sh 50, sh 51, sh 52, sh 53, sh 54, sh 55, sh 56, sh 57, sh 58, sh 59, sh 60, sh 61, sh 62, sh 63, sh 64, sh 65, sh 66, sh 67, sh 68, sh 69, sh 70, sh 71, sh 72, sh 73, sh 74, sh 75, sh 76, sh 77, sh 78, sh 79, sh 80, sh 81, sh 82, sh 83, sh 84, sh 85, sh 86, sh 87, sh 88, sh 89, sh 90, sh 91, sh 92, sh 93, sh 94, sh 95, sh 96, sh 97, sh 98, sh 99, sh 100, sh 101, sh 102, sh 103, sh 104, sh 105, sh 106, sh 107, sh 108, sh 109, sh 110, sh 111, sh 112, sh 113, sh 114, sh 115, sh 116, sh 117, sh 118, sh 119, sh 120, sh 121, sh 122, sh 123, sh 124, sh 125, sh 126, sh 127, sh 128, sh 129, sh 130, sh 131, sh 132, sh 133, sh 134, sh 135, sh 136, sh 137, sh 138, sh 139, sh 140, sh 141, sh 142, sh 143, sh 144, sh 145, sh 146, sh 147, sh 148, sh 149, sh 150, sh 151, sh 152, sh 153, sh 154, sh 155, sh 156, sh 157, sh 158, sh 159, sh 160, sh 161, sh 162, sh 163, sh 164, sh 165, sh 166, sh 167, sh 168, sh 169, sh 170, sh 171, sh 172, sh 173, sh 174, sh 175, sh 176, sh 177, sh 178, sh 179, sh 180, sh 181, sh 182, sh 183, sh 184, sh 185, sh 186, sh 187, sh 188, sh 189, sh 190, sh 191, sh 192, sh 193, sh 194, sh 195, sh 196, sh 197, sh 198, sh 199, sh 200, sh 201, sh 202, sh 203, sh 204, sh 205, sh 206, sh 207, sh 208, sh 209, sh 210, sh 211, sh 212, sh 213, sh 214, sh 215, sh 216, sh 217, sh 218, sh 219, sh 220, sh 221, sh 222, sh 223, sh 224, sh 225, sh 226, sh 227, sh 228, sh 229, sh 230, sh 231, sh 232, sh 233, sh 234, sh 235, sh 236, sh 237, sh 238, sh 239, sh 240, sh 241, sh 242, sh 243, sh 244, sh 245, sh 246, sh 247, sh 248, sh 249, sh 250, sh 251, sh 252, sh 253, sh 254, sh 255, sh 256, sh 257, sh 258, sh 259, sh 260, sh 261, sh 262, sh 263, sh 264, sh 265, sh 266, sh 267, sh 268, sh 269, sh 270, sh 271, sh 272, sh 273, sh 274, sh 275, sh 276, sh 277, sh 278, sh 279, sh 280, sh 281, sh 282, undef, undef, undef, undef, undef, undef, undef, undef, undef, undef, undef, undef, undef, undef, undef, undef, undef, undef, undef, undef, undef, undef, undef, undef, undef, undef, undef, undef, undef, undef, undef, undef, undef, undef, undef, undef, undef, undef, undef, undef, undef, undef, undef, undef, undef, undef, undef, undef, undef, undef, undef], []⟩ _) → _ from fun h => h ((fun l : List Value => fun i => l.getD i undef) [_, _, _, _, _, undef, _, undef, _, undef, _, _, _, _, _, _, _, _, _, _, _, _, _, undef, _, undef, undef, undef, undef, undef, undef, undef, undef, undef, undef, _, _, _, _, _, _, _, _, _, _, _, _, _, _, _, _, _, _, _, _, _, _, _, _, _, _, _, _, _, _, _, _, _, _, _, _, _, _, _, _, _, _, _, _, _, _, _, _, _, _, _, _, _, _, _, _, _, _, _, _, _, _, _, _, _, _, _, _, _, _, _, _, _, _, _, _, _, _, _, _, _, _, _, _, _, _, _, _, _, _, _, _, _, _, _, _, _, _, _, _, _, _, _, _, _, _, _, _, _, _, _, _, _, _, _, _, _, _, _, _, _, _, _, _, _, _, _, _, _, _, _, _, _, _, _, _, _, _, _, _, _, _, _, _, _, _, _, _, _, _, _, _, _, _, _, _, _, _, _, _, _, _, _, _, _, _, _, _, _, _, _, _, _, _, _, _, _, _, _, _, _, _, _, _, _, _, _, _, _, _, _, _, _, _, _, _, _, _, _, _, _, _, _, _, _, _, _, _, _, _, _, _, _, _, _, _, _, _, _, _, _, _, _, _, _, _, _, _, _, _, _, _, _, _, _, _, _, _, _, _, _, _, _, _, _, _, _, _])) ?_
            intro sh
            dsimp only
            refine wp_region_facts 13 [(1, 0), (2, 1), (3, 2), (5, 4), (6, 5), (7, 6), (9, 8), (10, 9), (11, 10), (12, 3), (12, 7), (12, 11)] (fun x => ⟨#[sh 0, sh 1, sh 2, sh 3, sh 4, .pointer (some ⟨(w.heap.size + 1 + 1), 0, none⟩), sh 6, .pointer (some ⟨v8, 0, none⟩), sh 8, .pointer (some ⟨v10, 0, none⟩), sh 10, sh 11, sh 12, sh 13, sh 14, sh 15, sh 16, sh 17, sh 18, sh 19, sh 20, sh 21, sh 22, .slice (some ⟨n15_, 0, none⟩) 3 3, sh 24, .bool true, .bool true, .int .i64 0, .bool true, .bool true, .int .i64 0, undef, undef, undef, undef, sh 35, sh 36, sh 37, sh 38, sh 39, sh 40, sh 41, sh 42, sh 43, sh 44, sh 45, sh 46, sh 47, sh 48, sh 49, sh 50, sh 51, sh 52, sh 53, sh 54, sh 55, sh 56, sh 57, sh 58, sh 59, sh 60, sh 61, sh 62, sh 63, sh 64, sh 65, sh 66, sh 67, sh 68, sh 69, sh 70, sh 71, sh 72, sh 73, sh 74, sh 75, sh 76, sh 77, sh 78, sh 79, sh 80, sh 81, sh 82, sh 83, sh 84, sh 85, sh 86, sh 87, sh 88, sh 89, sh 90, sh 91, sh 92, sh 93, sh 94, sh 95, sh 96, sh 97, sh 98, sh 99, sh 100, sh 101, sh 102, sh 103, sh 104, sh 105, sh 106, sh 107, sh 108, sh 109, sh 110, sh 111, sh 112, sh 113, sh 114, sh 115, sh 116, sh 117, sh 118, sh 119, sh 120, sh 121, sh 122, sh 123, sh 124, sh 125, sh 126, sh 127, sh 128, sh 129, sh 130, sh 131, sh 132, sh 133, sh 134, sh 135, sh 136, sh 137, sh 138, sh 139, sh 140, sh 141, sh 142, sh 143, sh 144, sh 145, sh 146, sh 147, sh 148, sh 149, sh 150, sh 151, sh 152, sh 153, sh 154, sh 155, sh 156, sh 157, sh 158, sh 159, sh 160, sh 161, sh 162, sh 163, sh 164, sh 165, sh 166, sh 167, sh 168, sh 169, sh 170, sh 171, sh 172, sh 173, sh 174, sh 175, sh 176, sh 177, sh 178, sh 179, sh 180, sh 181, sh 182, sh 183, sh 184, sh 185, sh 186, sh 187, sh 188, sh 189, sh 190, sh 191, sh 192, sh 193, sh 194, sh 195, sh 196, sh 197, sh 198, sh 199, sh 200, sh 201, sh 202, sh 203, sh 204, sh 205, sh 206, sh 207, sh 208, sh 209, sh 210, sh 211, sh 212, sh 213, sh 214, sh 215, sh 216, sh 217, sh 218, sh 219, sh 220, sh 221, sh 222, sh 223, sh 224, sh 225, sh 226, sh 227, sh 228, sh 229, sh 230, sh 231, sh 232, sh 233, sh 234, sh 235, sh 236, sh 237, sh 238, sh 239, sh 240, sh 241, sh 242, sh 243, sh 244, sh 245, sh 246, sh 247, sh 248, sh 249, sh 250, sh 251, sh 252, sh 253, sh 254, sh 255, sh 256, sh 257, sh 258, sh 259, sh 260, sh 261, sh 262, sh 263, sh 264, sh 265, sh 266, sh 267, sh 268, sh 269, sh 270, sh 271, sh 272, sh 273, sh 274, sh 275, sh 276, sh 277, sh 278, sh 279, sh 280, sh 281, sh 282, x 0, x 1, x 2, x 3, x 4, x 5, x 6, x 7, x 8, x 9, x 10, x 11, x 12, undef, undef, undef, undef, undef, undef, undef, undef, undef, undef, undef, undef, undef, undef, undef, undef, undef, undef, undef, undef, undef, undef, undef, undef, undef, undef, undef, undef, undef, undef, undef, undef, undef, undef, undef, undef, undef, undef], []⟩) (fun _ => undef) [fun _ x => x = .slice (some ⟨n15_, 0, none⟩) 3 3, fun _ x => x = .pointer (some ⟨n15_, 0, none⟩), fun _ x => x = .int .i64 T0, fun _ x => x = .int .i64 (T0 + 1), fun _ x => x = .slice (some ⟨n15_, 0, none⟩) 3 3, fun _ x => x = .pointer (some ⟨n15_, 1, none⟩), fun _ x => x = .int .i64 T1, fun _ x => x = .int .i64 (T1 + 1), fun _ x => x = .slice (some ⟨n15_, 0, none⟩) 3 3, fun _ x => x = .pointer (some ⟨n15_, 2, none⟩), fun _ x => x = .int .i64 T2, fun _ x => x = .int .i64 (T2 + 1), fun v x => ∃ a, x = .slice (some ⟨a, 0, none⟩) 3 3 ∧ Own v a [.int .i64 (T0 + 1), .int .i64 (T1 + 1), .int .i64 (T2 + 1)]] (by rfl) (by kernel_rfl) (by kernel_rfl) (by kernel_rfl) (stays_cons (Stays.eq _) (stays_cons (Stays.eq _) (stays_cons (Stays.eq _) (stays_cons (Stays.eq _) (stays_cons (Stays.eq _) (stays_cons (Stays.eq _) (stays_cons (Stays.eq _) (stays_cons (Stays.eq _) (stays_cons (Stays.eq _) (stays_cons (Stays.eq _) (stays_cons (Stays.eq _) (stays_cons (Stays.eq _) (stays_cons ((show Stays (fun v x => ∃ a, x = .slice (some ⟨a, 0, none⟩) 3 3 ∧ Own v a [.int .i64 (T0 + 1), .int .i64 (T1 + 1), .int .i64 (T2 + 1)]) from fun v v' x g ⟨a, e, r⟩ => ⟨a, e, r.keep g⟩)) stays_nil))))))))))))) ?step25 ?fin25
            case step25 => as_aux_lemma =>
             rintro i hi x v gv hd K hK
             have hi8 : i = 0 ∨ i = 1 ∨ i = 2 ∨ i = 3 ∨ i = 4 ∨ i = 5 ∨ i = 6 ∨ i = 7 ∨ i = 8 ∨ i = 9 ∨ i = 10 ∨ i = 11 ∨ i = 12 := by omega
             rcases hi8 with rfl | rfl | rfl | rfl | rfl | rfl | rfl | rfl | rfl | rfl | rfl | rfl | rfl
             ·dsimp only [upd, Nat.reduceBEq, cond_true, cond_false]
              refine wpOp_step rfl (fun K' hK' => ?_)
              go_simp
              exact hK' _ _ (hK _ _ (Below.refl _ _) (at_of rfl (rfl)))
             ·obtain ⟨x, rfl⟩ := upd_of (show x 0 = .slice (some ⟨n15_, 0, none⟩) 3 3 from hd 0 _ (by simp) rfl)
              dsimp only [upd, Nat.reduceBEq, cond_true, cond_false]
              refine wpOp_step rfl (fun K' hK' => ?_)
              go_simp
              exact hK' _ _ (hK _ _ (Below.refl _ _) (at_of rfl (rfl)))
             ·obtain ⟨x, rfl⟩ := upd_of (show x 1 = .pointer (some ⟨n15_, 0, none⟩) from hd 1 _ (by simp) rfl)
              dsimp only [upd, Nat.reduceBEq, cond_true, cond_false]
              refine wpOp_step rfl (fun K' hK' => ?_)
              have q := (oT.1.keep gv).2 0 _ rfl
              go_simp
              exact hK' _ _ (hK _ _ (Below.refl _ _) (at_of rfl (rfl)))
             ·obtain ⟨x, rfl⟩ := upd_of (show x 2 = .int .i64 T0 from hd 2 _ (by simp) rfl)
              dsimp only [upd, Nat.reduceBEq, cond_true, cond_false]
              refine wpOp_step rfl (fun K' hK' => ?_)
              go_simp
              exact hK' _ _ (hK _ _ (Below.refl _ _) (at_of rfl (rfl)))
             ·dsimp only [upd, Nat.reduceBEq, cond_true, cond_false]
              refine wpOp_step rfl (fun K' hK' => ?_)
              go_simp
              exact hK' _ _ (hK _ _ (Below.refl _ _) (at_of rfl (rfl)))
             ·obtain ⟨x, rfl⟩ := upd_of (show x 4 = .slice (some ⟨n15_, 0, none⟩) 3 3 from hd 4 _ (by simp) rfl)
              dsimp only [upd, Nat.reduceBEq, cond_true, cond_false]
              refine wpOp_step rfl (fun K' hK' => ?_)
              go_simp
              exact hK' _ _ (hK _ _ (Below.refl _ _) (at_of rfl (rfl)))
             ·obtain ⟨x, rfl⟩ := upd_of (show x 5 = .pointer (some ⟨n15_, 1, none⟩) from hd 5 _ (by simp) rfl)
              dsimp only [upd, Nat.reduceBEq, cond_true, cond_false]
              refine wpOp_step rfl (fun K' hK' => ?_)
              have q := (oT.1.keep gv).2 1 _ rfl
              go_simp
              exact hK' _ _ (hK _ _ (Below.refl _ _) (at_of rfl (rfl)))
             ·obtain ⟨x, rfl⟩ := upd_of (show x 6 = .int .i64 T1 from hd 6 _ (by simp) rfl)
              dsimp only [upd, Nat.reduceBEq, cond_true, cond_false]
              refine wpOp_step rfl (fun K' hK' => ?_)
              go_simp
              exact hK' _ _ (hK _ _ (Below.refl _ _) (at_of rfl (rfl)))
             ·dsimp only [upd, Nat.reduceBEq, cond_true, cond_false]
              refine wpOp_step rfl (fun K' hK' => ?_)
              go_simp
              exact hK' _ _ (hK _ _ (Below.refl _ _) (at_of rfl (rfl)))
             ·obtain ⟨x, rfl⟩ := upd_of (show x 8 = .slice (some ⟨n15_, 0, none⟩) 3 3 from hd 8 _ (by simp) rfl)
              dsimp only [upd, Nat.reduceBEq, cond_true, cond_false]
              refine wpOp_step rfl (fun K' hK' => ?_)
              go_simp
              exact hK' _ _ (hK _ _ (Below.refl _ _) (at_of rfl (rfl)))
             ·obtain ⟨x, rfl⟩ := upd_of (show x 9 = .pointer (some ⟨n15_, 2, none⟩) from hd 9 _ (by simp) rfl)
              dsimp only [upd, Nat.reduceBEq, cond_true, cond_false]
              refine wpOp_step rfl (fun K' hK' => ?_)
              have q := (oT.1.keep gv).2 2 _ rfl
              go_simp
              exact hK' _ _ (hK _ _ (Below.refl _ _) (at_of rfl (rfl)))
             ·obtain ⟨x, rfl⟩ := upd_of (show x 10 = .int .i64 T2 from hd 10 _ (by simp) rfl)
              dsimp only [upd, Nat.reduceBEq, cond_true, cond_false]
              refine wpOp_step rfl (fun K' hK' => ?_)
              go_simp
              exact hK' _ _ (hK _ _ (Below.refl _ _) (at_of rfl (rfl)))
             ·obtain ⟨x, rfl⟩ := upd_of (show x 3 = .int .i64 (T0 + 1) from hd 3 _ (by simp) rfl)
              obtain ⟨x, rfl⟩ := upd_of (show x 7 = .int .i64 (T1 + 1) from hd 7 _ (by simp) rfl)
              obtain ⟨x, rfl⟩ := upd_of (show x 11 = .int .i64 (T2 + 1) from hd 11 _ (by simp) rfl)
              dsimp only [upd, Nat.reduceBEq, cond_true, cond_false]
              refine wpOp_step rfl (fun K' hK' => ?_)
              go_simp
              have hg := Gr.al v (.cells (List.toArray [.int .i64 (T0 + 1), .int .i64 (T1 + 1), .int .i64 (T2 + 1)]) 3)
              exact hK' _ _ (hK _ _ hg (at_of rfl (⟨_, rfl, Own.new v [.int .i64 (T0 + 1), .int .i64 (T1 + 1), .int .i64 (T2 + 1)] 3 v.heap.size rfl⟩)))
            case fin25 =>
             rintro x v gv hd
             obtain ⟨n12_, e12, r12⟩ := hd 12 _ (by omega) rfl
             obtain ⟨x, rfl⟩ := upd_of (show x 12 = .slice (some ⟨n12_, 0, none⟩) 3 3 from e12)
             clear hd
             show wpList Try.prog _ _ (List.drop 13 _) (⟨#[_, _, _, _, _, _, _, _, _, _, _, _, _, _, _, _, _, _, _, _, _, _, _, _, _, _, _, _, _, _, _, _, _, _, _, _, _, _, _, _, _, _, _, _, _, _, _, _, _, _, _, _, _, _, _, _, _, _, _, _, _, _, _, _, _, _, _, _, _, _, _, _, _, _, _, _, _, _, _, _, _, _, _, _, _, _, _, _, _, _, _, _, _, _, _, _, _, _, _, _, _, _, _, _, _, _, _, _, _, _, _, _, _, _, _, _, _, _, _, _, _, _, _, _, _, _, _, _, _, _, _, _, _, _, _, _, _, _, _, _, _, _, _, _, _, _, _, _, _, _, _, _, _, _, _, _, _, _, _, _, _, _, _, _, _, _, _, _, _, _, _, _, _, _, _, _, _, _, _, _, _, _, _, _, _, _, _, _, _, _, _, _, _, _, _, _, _, _, _, _, _, _, _, _, _, _, _, _, _, _, _, _, _, _, _, _, _, _, _, _, _, _, _, _, _, _, _, _, _, _, _, _, _, _, _, _, _, _, _, _, _, _, _, _, _, _, _, _, _, _, _, _, _, _, _, _, _, _, _, _, _, _, _, _, _, _, _, _, _, _, _, _, _, _, _, _, _, _, _, _, _, _, _, x 0, x 1, x 2, x 3, x 4, x 5, x 6, x 7, x 8, x 9, x 10, x 11, .slice (some ⟨n12_, 0, none⟩) 3 3, _, _, _, _, _, _, _, _, _, _, _, _, _, _, _, _, _, _, _, _, _, _, _, _, _, _, _, _, _, _, _, _, _, _, _, _, _, _], []⟩ : Act) v
             simp only [List.drop_succ_cons, List.drop_zero]
             replace gU := gU.tr gv
             replace h3 := h3.keep gv
             replace oL := oL.keep gv
             replace oA := oA.keep gv
             replace r3 := r3.grow gv
             replace r7 := r7.grow gv
             replace r11 := r11.grow gv
             replace oT := oT.keep gv
             have oU := r12
             clear r12 e12 gv
             go_upto_region 26 with fail
             refine (show (∀ si : Nat → Value, Code.wp Try.prog _ _ ⟨#[si 0, si 1, si 2, si 3, si 4, .pointer (some ⟨(w.heap.size + 1 + 1), 0, none⟩), si 6, .pointer (some ⟨v8, 0, none⟩), si 8, .pointer (some ⟨v10, 0, none⟩), si 10, si 11, si 12, si 13, si 14, si 15, si 16, si 17, si 18, si 19, si 20, si 21, si 22, .slice (some ⟨n15_, 0, none⟩) 3 3, si 24, .bool true, .bool true, .int .i64 0, .bool true, .bool true, .int .i64 0, .slice (some ⟨n12_, 0, none⟩) 3 3, undef, undef, undef, si 35, si 36, si 37, si 38, si 39, si 40, si 41, si 42, si 43, si 44, si 45, si 46, si 47, si 48, si 49, si 50, si 51, si 52, si 53, si 54, si 55, si 56, si 57, si 58, si 59, si 60, si 61, si 62, si 63, si 64, si 65, si 66, si 67, si 68, si 69, si 70, si 71, si 72, si 73, si 74, si 75, si 76, si 77, si 78, si 79, si 80, si 81, si 82, si 83, si 84, si 85, si 86, si 87, si 88, si 89, si 90, si 91, si 92, si 93, si 94, si 95, si 96, si 97, si 98, si 99, si 100, si 101, si 102, si 103, si 104, si 105, si 106, si 107, si 108, si 109, si 110, si 111, si 112, si 113, si 114, si 115, si 116, si 117, si 118, si 119, si 120, si 121, si 122, si 123, si 124, si 125, si 126, si 127, si 128, si 129, si 130, si 131, si 132, si 133, si 134, si 135, si 136, si 137, si 138, si 139, si 140, si 141, si 142, si 143, si 144, si 145, si 146, si 147, si 148, si 149, si 150, si 151, si 152, si 153, si 154, si 155, si 156, si 157, si 158, si 159, si 160, si 161, si 162, si 163, si 164, si 165, si 166, si 167, si 168, si 169, si 170, si 171, si 172, si 173, si 174, si 175, si 176, si 177, si 178, si 179, si 180, si 181, si 182, si 183, si 184, si 185, si 186, si 187, si 188, si 189, si 190, si 191, si 192, si 193, si 194, si 195, si 196, si 197, si 198, si 199, si 200, si 201, si 202, si 203, si 204, si 205, si 206, si 207, si 208, si 209, si 210, si 211, si 212, si 213, si 214, si 215, si 216, si 217, si 218, si 219, si 220, si 221, si 222, si 223, si 224, si 225, si 226, si 227, si 228, si 229, si 230, si 231, si 232, si 233, si 234, si 235, si 236, si 237, si 238, si 239, si 240, si 241, si 242, si 243, si 244, si 245, si 246, si 247, si 248, si 249, si 250, si 251, si 252, si 253, si 254, si 255, si 256, si 257, si 258, si 259, si 260, si 261, si 262, si 263, si 264, si 265, si 266, si 267, si 268, si 269, si 270, si 271, si 272, si 273, si 274, si 275, si 276, si 277, si 278, si 279, si 280, si 281, si 282, si 283, si 284, si 285, si 286, si 287, si 288, si 289, si 290, si 291, si 292, si 293, si 294, si 295, undef, undef, undef, undef, undef, undef, undef, undef, undef, undef, undef, undef, undef, undef, undef, undef, undef, undef, undef, undef, undef, undef, undef, undef, undef, undef, undef, undef, undef, undef, undef, undef, undef, undef, undef, undef, undef, undef], []⟩ _) → _ from fun h => h ((fun l : List Value => fun i => l.getD i undef) [_, _, _, _, _, undef, _, undef, _, undef, _, _, _, _, _, _, _, _, _, _, _, _, _, undef, _, undef, undef, undef, undef, undef, undef, undef, undef, undef, undef, _, _, _, _, _, _, _, _, _, _, _, _, _, _, _, _, _, _, _, _, _, _, _, _, _, _, _, _, _, _, _, _, _, _, _, _, _, _, _, _, _, _, _, _, _, _, _, _, _, _, _, _, _, _, _, _, _, _, _, _, _, _, _, _, _, _, _, _, _, _, _, _, _, _, _, _, _, _, _, _, _, _, _, _, _, _, _, _, _, _, _, _, _, _, _, _, _, _, _, _, _, _, _, _, _, _, _, _, _, _, _, _, _, _, _, _, _, _, _, _, _, _, _, _, _, _, _, _, _, _, _, _, _, _, _, _, _, _, _, _, _, _, _, _, _, _, _, _, _, _, _, _, _, _, _, _, _, _, _, _, _, _, _, _, _, _, _, _, _, _, _, _, _, _, _, _, _, _, _, _, _, _, _, _, _, _, _, _, _, _, _, _, _, _, _, _, _, _, _, _, _, _, _, _, _, _, _, _, _, _, _, _, _, _, _, _, _, _, _, _, _, _, _, _, _, _, _, _, _, _, _, _, _, _, _, _, _, _, _, _, _, _, _, _, _, _, _, _, _, _, _, _, _, _, _, _, _, _, _, _, _])) ?_
             intro si
             dsimp only
             refine wp_region_facts 11 [(1, 0), (4, 1), (4, 2), (4, 3), (5, 4), (6, 5), (7, 5), (8, 5), (9, 6), (10, 7)] (fun x => ⟨#[si 0, si 1, si 2, si 3, si 4, .pointer (some ⟨(w.heap.size + 1 + 1), 0, none⟩), si 6, .pointer (some ⟨v8, 0, none⟩), si 8, .pointer (some ⟨v10, 0, none⟩), si 10, si 11, si 12, si 13, si 14, si 15, si 16, si 17, si 18, si 19, si 20, si 21, si 22, .slice (some ⟨n15_, 0, none⟩) 3 3, si 24, .bool true, .bool true, .int .i64 0, .bool true, .bool true, .int .i64 0, .slice (some ⟨n12_, 0, none⟩) 3 3, x 9, x 10, undef, si 35, si 36, si 37, si 38, si 39, si 40, si 41, si 42, si 43, si 44, si 45, si 46, si 47, si 48, si 49, si 50, si 51, si 52, si 53, si 54, si 55, si 56, si 57, si 58, si 59, si 60, si 61, si 62, si 63, si 64, si 65, si 66, si 67, si 68, si 69, si 70, si 71, si 72, si 73, si 74, si 75, si 76, si 77, si 78, si 79, si 80, si 81, si 82, si 83, si 84, si 85, si 86, si 87, si 88, si 89, si 90, si 91, si 92, si 93, si 94, si 95, si 96, si 97, si 98, si 99, si 100, si 101, si 102, si 103, si 104, si 105, si 106, si 107, si 108, si 109, si 110, si 111, si 112, si 113, si 114, si 115, si 116, si 117, si 118, si 119, si 120, si 121, si 122, si 123, si 124, si 125, si 126, si 127, si 128, si 129, si 130, si 131, si 132, si 133, si 134, si 135, si 136, si 137, si 138, si 139, si 140, si 141, si 142, si 143, si 144, si 145, si 146, si 147, si 148, si 149, si 150, si 151, si 152, si 153, si 154, si 155, si 156, si 157, si 158, si 159, si 160, si 161, si 162, si 163, si 164, si 165, si 166, si 167, si 168, si 169, si 170, si 171, si 172, si 173, si 174, si 175, si 176, si 177, si 178, si 179, si 180, si 181, si 182, si 183, si 184, si 185, si 186, si 187, si 188, si 189, si 190, si 191, si 192, si 193, si 194, si 195, si 196, si 197, si 198, si 199, si 200, si 201, si 202, si 203, si 204, si 205, si 206, si 207, si 208, si 209, si 210, si 211, si 212, si 213, si 214, si 215, si 216, si 217, si 218, si 219, si 220, si 221, si 222, si 223, si 224, si 225, si 226, si 227, si 228, si 229, si 230, si 231, si 232, si 233, si 234, si 235, si 236, si 237, si 238, si 239, si 240, si 241, si 242, si 243, si 244, si 245, si 246, si 247, si 248, si 249, si 250, si 251, si 252, si 253, si 254, si 255, si 256, si 257, si 258, si 259, si 260, si 261, si 262, si 263, si 264, si 265, si 266, si 267, si 268, si 269, si 270, si 271, si 272, si 273, si 274, si 275, si 276, si 277, si 278, si 279, si 280, si 281, si 282, si 283, si 284, si 285, si 286, si 287, si 288, si 289, si 290, si 291, si 292, si 293, si 294, si 295, x 5, x 0, x 1, x 2, x 3, x 4, x 6, x 7, x 8, undef, undef, undef, undef, undef, undef, undef, undef, undef, undef, undef, undef, undef, undef, undef, undef, undef, undef, undef, undef, undef, undef, undef, undef, undef, undef, undef, undef, undef], []⟩) (fun _ => undef) [fun _ x => x = .agg #[.int .i64 30, .slice ka3 4 kc3, .int .i64 hei, .slice ka7 2 kc7, .slice ka11 2 kc11, .int .i64 9, .bool o], fun v x => ∃ naa3 nac3 naa7 nac7 naa11 nac11, x = .agg #[.int .i64 30, .slice naa3 4 nac3, .int .i64 hei, .slice naa7 2 nac7, .slice naa11 2 nac11, .int .i64 9, .bool o] ∧ (IRow v naa3 [a0, a1, a2, a3] ∧ IRow v naa7 [t0, t1] ∧ IRow v naa11 [s0, s1]), fun _ x => x = .agg #[.int .i64 cl, .int .i64 ch], fun _ x => x = .slice (some ⟨n12_, 0, none⟩) 3 3, fun _ x => x = .tuple #[.bool false, .bool fb, .int .i64 0], fun _ x => x = .tuple #[.bool false, .bool fb, .int .i64 0], fun _ x => x = .bool false, fun _ x => x = .bool fb, fun _ x => x = .int .i64 0, fun _ x => x = .bool false, fun _ x => x = .bool fb] (by rfl) (by kernel_rfl) (by kernel_rfl) (by kernel_rfl) (stays_cons (Stays.eq _) (stays_cons ((show Stays (fun v x => ∃ naa3 nac3 naa7 nac7 naa11 nac11, x = .agg #[.int .i64 30, .slice naa3 4 nac3, .int .i64 hei, .slice naa7 2 nac7, .slice naa11 2 nac11, .int .i64 9, .bool o] ∧ (IRow v naa3 [a0, a1, a2, a3] ∧ IRow v naa7 [t0, t1] ∧ IRow v naa11 [s0, s1])) from fun v v' x g ⟨a, b, c, d, e, f, h, r1, r2, r3⟩ => ⟨a, b, c, d, e, f, h, r1.grow g, r2.grow g, r3.grow g⟩)) (stays_cons (Stays.eq _) (stays_cons (Stays.eq _) (stays_cons (Stays.eq _) (stays_cons (Stays.eq _) (stays_cons (Stays.eq _) (stays_cons (Stays.eq _) (stays_cons (Stays.eq _) (stays_cons (Stays.eq _) (stays_cons (Stays.eq _) stays_nil))))))))))) ?step26 ?fin26
             case step26 => as_aux_lemma =>
              rintro i hi x v gv hd K hK
              have hi8 : i = 0 ∨ i = 1 ∨ i = 2 ∨ i = 3 ∨ i = 4 ∨ i = 5 ∨ i = 6 ∨ i = 7 ∨ i = 8 ∨ i = 9 ∨ i = 10 := by omega
              rcases hi8 with rfl | rfl | rfl | rfl | rfl | rfl | rfl | rfl | rfl | rfl | rfl
              ·dsimp only [upd, Nat.reduceBEq, cond_true, cond_false]
               refine wpOp_step rfl (fun K' hK' => ?_)
               rw [if_pos (by rfl)]
               refine wp_load_mid 24 _ rfl v8 0 (by rfl) [.int .i64 30, .slice ka3 4 kc3, .int .i64 hei, .slice ka7 2 kc7, .slice ka11 2 kc11, .int .i64 9, .bool o] _ (fun j u hu => by rw [Nat.zero_add]; exact (oL.keep gv).2 j u hu) Try.underlying24 rfl (by kernel_rfl) ?_
               exact hK' _ _ (hK _ _ (Below.refl _ _) (at_of rfl (rfl)))
              ·obtain ⟨x, rfl⟩ := upd_of (show x 0 = .agg #[.int .i64 30, .slice ka3 4 kc3, .int .i64 hei, .slice ka7 2 kc7, .slice ka11 2 kc11, .int .i64 9, .bool o] from hd 0 _ (by simp) rfl)
               dsimp only [upd, Nat.reduceBEq, cond_true, cond_false]
               refine wpOp_step rfl (fun K' hK' => ?_)
               go_simp
               refine (own4_any a0 a1 a2 a3 t0 t1 s0 s1 hei o _ _ _ _ _ _ v (r3.grow gv) (r7.grow gv) (r11.grow gv)).mono ?_
               rintro e v' ⟨w3, b3, w7, b7, w11, b11, rfl, hg, r1, r2, r3⟩
               exact hK' _ _ (hK _ _ hg (at_of rfl (⟨_, _, _, _, _, _, rfl, r1, r2, r3⟩)))
              ·dsimp only [upd, Nat.reduceBEq, cond_true, cond_false]
               refine wpOp_step rfl (fun K' hK' => ?_)
               rw [if_pos (by rfl)]
               refine wp_load_mid 37 _ rfl v10 0 (by rfl) [.int .i64 cl, .int .i64 ch] _ (fun j u hu => by rw [Nat.zero_add]; exact (oA.keep gv).2 j u hu) Try.underlying37 rfl (by kernel_rfl) ?_
               exact hK' _ _ (hK _ _ (Below.refl _ _) (at_of rfl (rfl)))
              ·dsimp only [upd, Nat.reduceBEq, cond_true, cond_false]
               refine wpOp_step rfl (fun K' hK' => ?_)
               go_simp
               exact hK' _ _ (hK _ _ (Below.refl _ _) (at_of rfl (rfl)))
              ·obtain ⟨naa3, nac3, naa7, nac7, naa11, nac11, e1, r1⟩ := hd 1 _ (by simp) rfl
               obtain ⟨x, rfl⟩ := upd_of (show x 1 = .agg #[.int .i64 30, .slice naa3 4 nac3, .int .i64 hei, .slice naa7 2 nac7, .slice naa11 2 nac11, .int .i64 9, .bool o] from e1)
               obtain ⟨x, rfl⟩ := upd_of (show x 2 = .agg #[.int .i64 cl, .int .i64 ch] from hd 2 _ (by simp) rfl)
               obtain ⟨x, rfl⟩ := upd_of (show x 3 = .slice (some ⟨n12_, 0, none⟩) 3 3 from hd 3 _ (by simp) rfl)
               dsimp only [upd, Nat.reduceBEq, cond_true, cond_false]
               refine wpOp_step rfl (fun K' hK' => ?_)
               go_simp
               refine (HO3.out _ _ _ _ _ _ _ _ v r1.1 r1.2.1 r1.2.2 (Own.row (l := [T0 + 1, T1 + 1, T2 + 1]) (oU.keep gv) (by simp)) false fb F5.out F6.out).mono ?_
               rintro e v' ⟨rfl, hg⟩
               exact hK' _ _ (hK _ _ hg (at_of rfl (rfl)))
              ·obtain ⟨x, rfl⟩ := upd_of (show x 4 = .tuple #[.bool false, .bool fb, .int .i64 0] from hd 4 _ (by simp) rfl)
               dsimp only [upd, Nat.reduceBEq, cond_true, cond_false]
               refine wpOp_step rfl (fun K' hK' => ?_)
               go_simp
               exact hK' _ _ (hK _ _ (Below.refl _ _) (at_of rfl (rfl)))
              ·obtain ⟨x, rfl⟩ := upd_of (show x 5 = .tuple #[.bool false, .bool fb, .int .i64 0] from hd 5 _ (by simp) rfl)
               dsimp only [upd, Nat.reduceBEq, cond_true, cond_false]
               refine wpOp_step rfl (fun K' hK' => ?_)
               go_simp
               exact hK' _ _ (hK _ _ (Below.refl _ _) (at_of rfl (rfl)))
              ·obtain ⟨x, rfl⟩ := upd_of (show x 5 = .tuple #[.bool false, .bool fb, .int .i64 0] from hd 5 _ (by simp) rfl)
               dsimp only [upd, Nat.reduceBEq, cond_true, cond_false]
               refine wpOp_step rfl (fun K' hK' => ?_)
               go_simp
               exact hK' _ _ (hK _ _ (Below.refl _ _) (at_of rfl (rfl)))
              ·obtain ⟨x, rfl⟩ := upd_of (show x 5 = .tuple #[.bool false, .bool fb, .int .i64 0] from hd 5 _ (by simp) rfl)
               dsimp only [upd, Nat.reduceBEq, cond_true, cond_false]
               refine wpOp_step rfl (fun K' hK' => ?_)
               go_simp
               exact hK' _ _ (hK _ _ (Below.refl _ _) (at_of rfl (rfl)))
              ·obtain ⟨x, rfl⟩ := upd_of (show x 6 = .bool false from hd 6 _ (by simp) rfl)
               dsimp only [upd, Nat.reduceBEq, cond_true, cond_false]
               refine wpOp_step rfl (fun K' hK' => ?_)
               go_simp
               exact hK' _ _ (hK _ _ (Below.refl _ _) (at_of rfl (rfl)))
              ·obtain ⟨x, rfl⟩ := upd_of (show x 7 = .bool fb from hd 7 _ (by simp) rfl)
               dsimp only [upd, Nat.reduceBEq, cond_true, cond_false]
               refine wpOp_step rfl (fun K' hK' => ?_)
               go_simp
               exact hK' _ _ (hK _ _ (Below.refl _ _) (at_of rfl (rfl)))
             case fin26 =>
              rintro x v gv hd
              obtain ⟨x, rfl⟩ := upd_of (show x 8 = .int .i64 0 from hd 8 _ (by omega) rfl)
              obtain ⟨x, rfl⟩ := upd_of (show x 9 = .bool false from hd 9 _ (by omega) rfl)
              obtain ⟨x, rfl⟩ := upd_of (show x 10 = .bool fb from hd 10 _ (by omega) rfl)
              clear hd
              show wpList Try.prog _ _ (List.drop 11 _) (⟨#[_, _, _, _, _, _, _, _, _, _, _, _, _, _, _, _, _, _, _, _, _, _, _, _, _, _, _, _, _, _, _, _, .bool false, .bool fb, _, _, _, _, _, _, _, _, _, _, _, _, _, _, _, _, _, _, _, _, _, _, _, _, _, _, _, _, _, _, _, _, _, _, _, _, _, _, _, _, _, _, _, _, _, _, _, _, _, _, _, _, _, _, _, _, _, _, _, _, _, _, _, _, _, _, _, _, _, _, _, _, _, _, _, _, _, _, _, _, _, _, _, _, _, _, _, _, _, _, _, _, _, _, _, _, _, _, _, _, _, _, _, _, _, _, _, _, _, _, _, _, _, _, _, _, _, _, _, _, _, _, _, _, _, _, _, _, _, _, _, _, _, _, _, _, _, _, _, _, _, _, _, _, _, _, _, _, _, _, _, _, _, _, _, _, _, _, _, _, _, _, _, _, _, _, _, _, _, _, _, _, _, _, _, _, _, _, _, _, _, _, _, _, _, _, _, _, _, _, _, _, _, _, _, _, _, _, _, _, _, _, _, _, _, _, _, _, _, _, _, _, _, _, _, _, _, _, _, _, _, _, _, _, _, _, _, _, _, _, _, _, _, _, _, _, _, _, _, _, _, _, _, _, _, _, _, _, _, _, _, _, _, _, _, _, _, _, _, _, _, _, x 5, x 0, x 1, x 2, x 3, x 4, x 6, x 7, .int .i64 0, _, _, _, _, _, _, _, _, _, _, _, _, _, _, _, _, _, _, _, _, _, _, _, _, _, _, _, _, _], []⟩ : Act) v
              simp only [List.drop_succ_cons, List.drop_zero]
              replace gU := gU.tr gv
              replace h3 := h3.keep gv
              replace oL := oL.keep gv
              replace oA := oA.keep gv
              replace r3 := r3.grow gv
              replace r7 := r7.grow gv
              replace r11 := r11.grow gv
              replace oT := oT.keep gv
              replace oU := oU.keep gv
              clear gv
              go_wp2_with (first | (go_at_call 15; refine (known_any _).mono ?_; rintro e w10 ⟨rfl, g10⟩))
              go_ret
              exact ⟨rfl, gU.tr g10⟩

end Go.Proofs.Ytafkoococfnakaa

namespace Go.Proofs.Ytafkoococfnakaa
set_option linter.unusedVariables false
set_option linter.unusedSimpArgs false
open Go.RowKit Go.ChangeShapes

section
variable {H : Type} {enc : TypeId × Value → H} {P : Program} {W W' : World}

theorem trodAll_stays (hl : laidOutB P = true) (g : Gr W W') {sp : Nat → Bool} : ∀ (ts : List TypeId) (vs : List Value) (ds : List (DataW H)) (ps : List MemPlace), (∀ t ∈ ts, P.readableRec t = true ∧ t < P.types.size) →
    DataW.TrodAll enc P W 0 (fun _ => true) true ts vs ds ps → (∀ p ∈ ps, p.block < W.heap.size) → (∀ p ∈ ps, sp p.block = true) → DataW.TrodAll enc P W' 0 sp true ts vs ds ps
  | [], [], [], _, _, h, _, _ => h
  | t :: ts, v :: vs, d :: ds, ps, ht, h, hlt, hsp => by
    obtain ⟨p, q, h1, h2, rfl⟩ := h
    exact ⟨p, q, WideElems.Trod_stays hl (ht t (by simp)).1 (ht t (by simp)).2 h1 (fun x hx => g.same (hlt x (by simp [hx]))) (fun x hx => hsp x (by simp [hx])),
      trodAll_stays hl g ts vs ds q (fun u hu => ht u (by simp [hu])) h2 (fun x hx => hlt x (by simp [hx])) (fun x hx => hsp x (by simp [hx])), rfl⟩

/-- A law that returned true in a world that only grew, its arguments as they were. -/
theorem law_true {f : Func} {s : ChangeSpec} {bt : TypeId} {args : Array Value} {ds : List (DataW H)} {p : List MemPlace}
    (hl : laidOutB P = true) (hpt : ∀ t ∈ f.params.toList, P.readableRec t = true ∧ t < P.types.size) (hbt : P.underlying bt = some .bool) (hrt : f.resultTypes = #[bt]) (hsv : s.vars = [])
    (hs : s.fn H ds = { results := [.lit (.bool true)], args := ds })
    (hW : DataW.Whole enc P f.params.toList s.vars false W args.toList ds [] p) (g : Gr W W') :
    s.post enc P f false true false false W args (.bool true) W' := by
  have hW0 := hW
  obtain ⟨pa, pv, hA, hV, hp, hfz, hnd⟩ := hW0
  rw [hsv] at hV
  have hpv : pv = [] := hV
  subst hpv
  rw [List.append_nil] at hp
  subst hp
  have hold : ∀ x ∈ p, x.block < W.heap.size := fun x hx => hW.lt x hx
  have hargs : ∀ sp : Nat → Bool, (∀ x ∈ p, sp x.block = true) → DataW.TrodAll enc P W' 0 sp true f.params.toList args.toList ds p := fun sp hsp => trodAll_stays hl g _ _ _ _ hpt hA hold hsp
  have hres : ∀ (b : Nat) (sp : Nat → Bool) (hd : Bool), DataW.TrodAll enc P W' b sp hd f.resultTypes.toList ((Value.bool true).resultList f.resultTypes.size) [.lit (.bool true)] [] := fun b sp hd => by
    rw [hrt]
    exact trodAll_cons_mk (shut_bool hbt _) trodAll_mk0
  have hok : ∀ (j : Nat) (t : TypeId) (r : Value), f.resultTypes[j]? = some t → ((Value.bool true).resultList f.resultTypes.size)[j]? = some r → Value.okWide P W' .any 0 t r := ok_one hrt rfl (okWide_bool_mk hbt _)
  have es : s.fn H (ds ++ []) = { results := [.lit (.bool true)], args := ds } := by rw [List.append_nil]; exact hs
  have hsp0 : ∀ x ∈ p, (fun b => decide (b < W.heap.size)) x.block = true := fun x hx => by simpa using hold x hx
  refine ⟨ds, [], p, [], p, [], hW, ?_, ?_, ?_, World.keptBut_mono (fun x hx => hx.elim) (g.frame (fun _ => False)), fun _ => ?_⟩
  · rw [es]; exact hres _ _ _
  · rw [es]; exact hargs _ hsp0
  · rw [es, hsv]; rfl
  · refine ⟨hok, [.lit (.bool true)] ++ ds, [], ([] ++ p) ++ [], ⟨[] ++ p, [], trodAll_append (hargs (fun _ => true) (fun _ _ => rfl)) (hres _ _ _), ?_, rfl, ?_, ?_⟩, ?_⟩
    · rw [hsv]; rfl
    · intro b off hx
      have hx' : MemPlace.cell b off ∈ p := by simpa using hx
      have hb : b < W.heap.size := hold _ hx'
      rw [g.frozen (p := ⟨b, off, none⟩) hb]
      exact hfz b off hx'
    · intro ha
      cases ha
    · intro x hx _
      simpa using hx

/-- Made of integers of kind k alone, cell by cell: by looking. -/
def allK (P : Program) (k : IntKind) : Nat → TypeId → Bool
  | 0, _ => false
  | f + 1, t => match P.underlying t with
    | some (.int k') => decide (k' = k) && decide (P.cellsOf t = 1)
    | some (.struct fs) => fs.toList.all (fun x => allK P k f x.type) && (List.range (P.cellsOf t)).all fun i => fs.toList.any fun x => decide (x.offset ≤ i) && decide (i < x.offset + P.cellsOf x.type)
    | some (.array n e) => allK P k f e && (List.range (P.cellsOf t)).all fun i => (List.range n).any fun j => decide (j * P.cellsOf e ≤ i) && decide (i < j * P.cellsOf e + P.cellsOf e)
    | _ => false

theorem piece {cs : List Value} {o n i : Nat} (h1 : o ≤ i) (h2 : i < o + n) : ((cs.drop o).take n)[i - o]? = cs[i]? := by
  rw [List.getElem?_take_of_lt (by omega), List.getElem?_drop, show o + (i - o) = i by omega]

theorem mapM_at {α β : Type} {f : α → Option β} : ∀ (l : List α) (ys : List β), l.mapM f = some ys → ∀ a ∈ l, ∃ y, f a = some y
  | [], _, _, a, ha => by cases ha
  | b :: l, ys, h, a, ha => by
    rw [List.mapM_cons] at h
    cases h1 : f b with
    | none => simp [h1] at h
    | some y =>
      cases h2 : l.mapM f with
      | none => simp [h1, h2] at h
      | some zs =>
        rcases List.mem_cons.1 ha with rfl | ha
        · exact ⟨y, h1⟩
        · exact mapM_at l zs h2 a ha

theorem int_open {k : IntKind} {base : Nat} {sp : Nat → Bool} {held : Bool} {t : TypeId} (hu : P.underlying t = some (.int k)) {fuel : Nat} {cs : List Value} {x : DataW H × List MemPlace} (hx : DataW.trod enc P W base sp held fuel t cs = some x) :
    ∃ n, cs = [.int k n] ∧ (Lit.int k n).wf = true := by
  obtain ⟨n, e, _, hw⟩ := DataW.trod_int hu hx
  exact ⟨n, e, hw⟩

theorem allK_open {k : IntKind} {base : Nat} {sp : Nat → Bool} {held : Bool} : ∀ (f : Nat) (t : TypeId), allK P k f t = true → ∀ (fuel : Nat) (cs : List Value) (x : DataW H × List MemPlace), DataW.trod enc P W base sp held fuel t cs = some x →
    cs.length = P.cellsOf t ∧ ∀ i, i < cs.length → ∃ n, cs[i]? = some (.int k n) ∧ (Lit.int k n).wf = true
  | 0, _, h, _, _, _, _ => by simp [allK] at h
  | f + 1, t, h, 0, cs, x, hx => by simp [DataW.trod] at hx
  | f + 1, t, h, fuel + 1, cs, x, hx => by
    unfold allK at h
    split at h
    · rename_i k' hu
      simp only [Bool.and_eq_true, decide_eq_true_eq] at h
      obtain ⟨rfl, hc⟩ := h
      obtain ⟨n, rfl, hw⟩ := int_open hu hx
      refine ⟨by rw [hc]; rfl, fun i hi => ?_⟩
      obtain rfl : i = 0 := by simpa using hi
      exact ⟨n, rfl, hw⟩
    · rename_i fs hu
      simp only [Bool.and_eq_true] at h
      obtain ⟨ha, hcov⟩ := h
      unfold DataW.trod at hx
      rw [hu] at hx
      simp only at hx
      split at hx
      case isFalse => cases hx
      rename_i hl
      refine ⟨hl, fun i hi => ?_⟩
      obtain ⟨xs, hxs, _⟩ := Option.map_eq_some_iff.1 hx
      have hci := List.all_eq_true.1 hcov i (by simp; omega)
      obtain ⟨fd, hfd, hin⟩ := List.any_eq_true.1 hci
      simp only [Bool.and_eq_true, decide_eq_true_eq] at hin
      obtain ⟨y, hy⟩ := mapM_at _ _ hxs fd hfd
      obtain ⟨hl', hat⟩ := allK_open f fd.type (List.all_eq_true.1 ha fd hfd) fuel _ y hy
      obtain ⟨n, hn, hw⟩ := hat (i - fd.offset) (by rw [hl']; omega)
      rw [piece hin.1 hin.2] at hn
      exact ⟨n, hn, hw⟩
    · rename_i m e hu
      simp only [Bool.and_eq_true] at h
      obtain ⟨ha, hcov⟩ := h
      unfold DataW.trod at hx
      rw [hu] at hx
      simp only at hx
      split at hx
      case isFalse => cases hx
      rename_i hl
      refine ⟨hl, fun i hi => ?_⟩
      obtain ⟨xs, hxs, _⟩ := Option.map_eq_some_iff.1 hx
      have hci := List.all_eq_true.1 hcov i (by simp; omega)
      obtain ⟨j, hj, hin⟩ := List.any_eq_true.1 hci
      simp only [Bool.and_eq_true, decide_eq_true_eq] at hin
      obtain ⟨y, hy⟩ := mapM_at _ _ hxs j hj
      obtain ⟨hl', hat⟩ := allK_open f e ha fuel _ y hy
      obtain ⟨n, hn, hw⟩ := hat (i - j * P.cellsOf e) (by rw [hl']; omega)
      rw [piece hin.1 hin.2] at hn
      exact ⟨n, hn, hw⟩
    · cases h

theorem ints_of {k : IntKind} : ∀ (cs : List Value), (∀ i, i < cs.length → ∃ n, cs[i]? = some (.int k n) ∧ (Lit.int k n).wf = true) → ∃ l : List Int, cs = l.map (Value.int k) ∧ ∀ n ∈ l, (Lit.int k n).wf = true
  | [], _ => ⟨[], rfl, by simp⟩
  | c :: cs, h => by
    obtain ⟨n, hn, hw⟩ := h 0 (by simp)
    obtain ⟨l, rfl, hl⟩ := ints_of cs (fun i hi => by simpa using h (i + 1) (by simpa using hi))
    simp only [List.getElem?_cons_zero, Option.some.injEq] at hn
    subst hn
    refine ⟨n :: l, rfl, fun m hm => ?_⟩
    rcases List.mem_cons.1 hm with rfl | hm
    · exact hw
    · exact hl m hm

/-- A struct or array by value, of integers of one kind: its integers. -/
theorem agg_ints {k : IntKind} {base : Nat} {sp : Nat → Bool} {held : Bool} {f : Nat} {t : TypeId} (ha : allK P k f t = true) (hc : P.cellsOf t ≠ 1) {v : Value} {d : DataW H} {ps : List MemPlace} (h : DataW.Trod enc P W base sp held t v d ps) :
    ∃ l : List Int, v = .agg (l.map (Value.int k)).toArray ∧ l.length = P.cellsOf t ∧ ∀ n ∈ l, (Lit.int k n).wf = true := by
  obtain ⟨fuel, hf⟩ := h
  obtain ⟨hl, hat⟩ := allK_open f t ha fuel _ _ hf
  obtain ⟨l, hcs, hw⟩ := ints_of _ hat
  have hlen : l.length = P.cellsOf t := by rw [← hl, hcs]; simp
  refine ⟨l, ?_, hlen, hw⟩
  unfold Value.cells at hcs hl
  split at hcs
  · rename_i cs
    rw [← hcs]
  · rename_i hna
    exfalso
    apply hc
    rw [← hlen]
    have := congrArg List.length hcs
    simpa using this.symm

/-- A slice of bytes that came in. -/
theorem row_bytes {e : TypeId} {t : TypeId} {r : Reach} {b0 : Nat} (ht : P.underlying t = some (.slice e)) (he : P.underlying e = some (.int .u8)) (hc : P.cellsOf e = 1) {v : Value} {d : DataW H} {ps : List MemPlace} (hval : Value.okWide P W r b0 t v)
    (h : DataW.Trod enc P W 0 (fun _ => true) true t v d ps) :
    ∃ (a : Option Addr) (l : List Int) (cap : Nat), v = .slice a l.length cap ∧ URow W a l ∧ Bytes l := by
  obtain ⟨fuel, hf⟩ := h
  obtain ⟨a0, len0, cap0, rfl⟩ := Go.WideShapes.okWide_slice ht hval
  rcases open_ints ht he hc hf with ⟨hcs, _⟩ | ⟨a, len, cap, zs, hcs, _, hle, hmax, hlen, _, hcell, hwf⟩
  · have hcs' : [Value.slice a0 len0 cap0] = [.slice none 0 0] := by simpa [Value.cells] using hcs
    cases hcs'
    exact ⟨none, [], 0, rfl, RowOf.nil, fun x hx => by cases hx⟩
  · have hcs' : [Value.slice a0 len0 cap0] = [.slice (some a) len cap] := by simpa [Value.cells] using hcs
    cases hcs'
    simp only [if_true] at hlen
    have hl : (zs.take len0).length = len0 := by simp; omega
    refine ⟨some a, zs.take len0, cap0, by rw [hl], ⟨by rw [hl]; exact Nat.le_trans hle hmax, fun j x hx => ?_⟩, fun x hx => bounds_u8 (hwf x (List.mem_of_mem_take hx))⟩
    have hj : j < len0 := by
      have := (List.getElem?_eq_some_iff.1 hx).1
      omega
    have hz : zs[j]? = some x := by
      rw [List.getElem?_take_of_lt hj] at hx
      exact hx
    have h0 := hcell 0 (by omega)
    rw [show a.add 0 = a by simp [Addr.add]] at h0
    have hb := World.block_lt_of_cell? W _ h0
    have hs : a.spot = none := by
      cases hsp : a.spot with
      | none => rfl
      | some q =>
        exfalso
        unfold World.cell? at h0
        split at h0
        · simp [hsp] at h0
        · cases h0
    obtain ⟨b, off, sp⟩ := a
    simp only at hs
    subst hs
    have h1 := hcell j (by omega)
    have e1 : zs.getD j 0 = x := by simp [hz]
    rw [e1, show (Addr.mk b off none).add j = ⟨b, off + j, none⟩ by unfold Addr.add; split <;> simp_all] at h1
    refine ⟨b, off, rfl, hb, fun i v hv => ?_⟩
    have hi : i = 0 := by
      have := (List.getElem?_eq_some_iff.1 hv).1
      simpa [encU] using this
    subst hi
    simp [encU] at hv
    subst hv
    simpa using h1

end

end Go.Proofs.Ytafkoococfnakaa

namespace Go.Proofs.Ytafkoococfnakaa
set_option linter.unusedVariables false
set_option linter.unusedSimpArgs false
open Go.RowKit Go.ChangeShapes

theorem list_of {α : Type} (p : Nat → α → Prop) : ∀ n, (∀ j, j < n → ∃ x, p j x) → ∃ l : List α, l.length = n ∧ ∀ j x, l[j]? = some x → p j x
  | 0, _ => ⟨[], rfl, fun j x h => by simp at h⟩
  | n + 1, h => by
    obtain ⟨l, hl, hp⟩ := list_of p n (fun j hj => h j (by omega))
    obtain ⟨x, hx⟩ := h n (by omega)
    refine ⟨l ++ [x], by simp [hl], fun j y hy => ?_⟩
    by_cases hj : j < l.length
    · rw [List.getElem?_append_left hj] at hy
      exact hp j y hy
    · rw [List.getElem?_append_right (by omega)] at hy
      have h1 := (List.getElem?_eq_some_iff.1 hy).1
      simp at h1
      obtain rfl : j = n := by omega
      simp [hl] at hy
      subst hy
      exact hx

section
variable {H : Type} {enc : TypeId × Value → H} {P : Program} {W : World}

/-- A slice of arrays of integers of one kind. -/
theorem row_flat {α : Type} {en : α → List Value} {G : α → Prop} {e t : TypeId} {k : IntKind} {f sz fuel : Nat} {cs : List Value} {x : DataW H × List MemPlace} (ht : P.underlying t = some (.slice e)) (ha : allK P k f e = true) (hc : P.cellsOf e = sz) (h0 : 0 < sz)
    (hmk : ∀ l : List Int, l.length = sz → (∀ n ∈ l, (Lit.int k n).wf = true) → ∃ y : α, en y = l.map (Value.int k) ∧ G y)
    (hx : DataW.trod enc P W 0 (fun _ => true) true fuel t cs = some x) :
    ∃ (a : Option Addr) (l : List α) (cap : Nat), cs = [.slice a l.length cap] ∧ RowOf sz en W a l ∧ ∀ v ∈ l, G v := by
  rcases DataW.trod_slice ht hx with ⟨h, _⟩ | ⟨a, len, cap, elems, rest, n, _, rfl, _, hb, hl, hm, hlen, hel, _, _⟩
  · exact ⟨none, [], 0, h, RowOf.nil, fun v hv => by cases hv⟩
  have hj : ∀ j, j < len → ∃ y : α, G y ∧ ∃ l : List Int, l.length = sz ∧ en y = l.map (Value.int k) ∧ ∀ i, i < sz → W.cell? ((a.add (j * sz)).add i) = (l.map (Value.int k))[i]? := by
    intro j hj
    have h1 := hel j hj
    rw [List.getElem?_eq_getElem (by omega)] at h1
    obtain ⟨cs', hcs, hy⟩ := Option.bind_eq_some_iff.1 h1
    obtain ⟨hl', hat⟩ := allK_open f e ha _ _ _ hy
    obtain ⟨l, hcl, hw⟩ := ints_of _ hat
    have hll : l.length = sz := by rw [← hc, ← hl', hcl]; simp
    obtain ⟨y, hy1, hy2⟩ := hmk l hll hw
    refine ⟨y, hy2, l, hll, hy1, fun i hi => ?_⟩
    have := (World.cells?_some hcs).2.2 i (by omega)
    rw [hc, hcl] at this
    exact this
  obtain ⟨l, hlen', hp⟩ := list_of _ len hj
  refine ⟨some a, l, cap, by rw [hlen'], ⟨?_, fun j y hy => ?_⟩, fun v hv => ?_⟩
  · rw [hlen']
    have : maxLen ≤ 9223372036854775807 := by decide
    omega
  · obtain ⟨_, li, hli, hen, hcell⟩ := hp j y hy
    have z0 := hcell 0 h0
    have hi0 : (li.map (Value.int k))[0]? = some (.int k (li[0]'(by omega))) := by simp [List.getElem?_eq_getElem (show 0 < li.length by omega)]
    rw [hi0, show (a.add (j * sz)).add 0 = a.add (j * sz) by simp [Addr.add]] at z0
    have hs : a.spot = none := by
      cases hsp : a.spot with
      | none => rfl
      | some q =>
        exfalso
        have hj0 : j < len := by have := (List.getElem?_eq_some_iff.1 hy).1; omega
        obtain ⟨_, _, li0, hli0, _, hc0⟩ := hj 0 (by omega)
        have z1 := hc0 0 h0
        have hi1 : (li0.map (Value.int k))[0]? = some (.int k (li0[0]'(by omega))) := by simp [List.getElem?_eq_getElem (show 0 < li0.length by omega)]
        rw [hi1, show (a.add (0 * sz)).add 0 = a by simp [Addr.add]] at z1
        unfold World.cell? at z1
        split at z1
        · simp [hsp] at z1
        · cases z1
    obtain ⟨b, off, sp⟩ := a
    simp only at hs
    subst hs
    refine ⟨b, off, rfl, ?_, fun i v hv => ?_⟩
    · have := World.block_lt_of_cell? W _ z0
      rw [WideShapes.add_plain] at this
      exact this
    · have hi : i < sz := by
        have := (List.getElem?_eq_some_iff.1 hv).1
        rw [hen] at this
        simpa [hli] using this
      have := hcell i hi
      rw [WideShapes.add_plain, WideShapes.add_plain, ← hen, hv] at this
      exact this
  · obtain ⟨j, hjv⟩ := List.getElem?_of_mem hv
    exact (hp j v hjv).1

/-- A struct of three slices: each by itself. -/
theorem struct3 {t t0 t1 t2 : TypeId} {fs : Array Field} {fuel : Nat} {cs : List Value} {x : DataW H × List MemPlace} (hu : P.underlying t = some (.struct fs)) (ct : P.cellsOf t = 3) (c0 : P.cellsOf t0 = 1) (c1 : P.cellsOf t1 = 1) (c2 : P.cellsOf t2 = 1)
    (m0 : ∃ g ∈ fs.toList, g.type = t0 ∧ g.offset = 0) (m1 : ∃ g ∈ fs.toList, g.type = t1 ∧ g.offset = 1) (m2 : ∃ g ∈ fs.toList, g.type = t2 ∧ g.offset = 2)
    (hx : DataW.trod enc P W 0 (fun _ => true) true fuel t cs = some x) :
    ∃ s0 s1 s2 n x0 x1 x2, cs = [s0, s1, s2] ∧ DataW.trod enc P W 0 (fun _ => true) true n t0 [s0] = some x0 ∧ DataW.trod enc P W 0 (fun _ => true) true n t1 [s1] = some x1 ∧ DataW.trod enc P W 0 (fun _ => true) true n t2 [s2] = some x2 := by
  cases fuel with
  | zero => simp [DataW.trod] at hx
  | succ n =>
    unfold DataW.trod at hx
    rw [hu] at hx
    simp only at hx
    split at hx
    case isFalse => cases hx
    rename_i hl
    obtain ⟨xs, hxs, _⟩ := Option.map_eq_some_iff.1 hx
    rw [ct] at hl
    obtain ⟨s0, s1, s2, rfl⟩ : ∃ s0 s1 s2, cs = [s0, s1, s2] := by
      match cs, hl with
      | [s0, s1, s2], _ => exact ⟨s0, s1, s2, rfl⟩
    obtain ⟨g0, hg0, e0, o0⟩ := m0
    obtain ⟨g1, hg1, e1, o1⟩ := m1
    obtain ⟨g2, hg2, e2, o2⟩ := m2
    obtain ⟨y0, hy0⟩ := mapM_at _ _ hxs g0 hg0
    obtain ⟨y1, hy1⟩ := mapM_at _ _ hxs g1 hg1
    obtain ⟨y2, hy2⟩ := mapM_at _ _ hxs g2 hg2
    rw [e0, o0, c0] at hy0
    rw [e1, o1, c1] at hy1
    rw [e2, o2, c2] at hy2
    exact ⟨s0, s1, s2, n, y0, y1, y2, rfl, hy0, hy1, hy2⟩

end


/-- The pieces of a struct. -/
theorem struct_piece {H : Type} {enc : TypeId × Value → H} {P : Program} {W : World} {t : TypeId} {fs : Array Field} {fuel : Nat} {cs : List Value} {x : DataW H × List MemPlace} (hu : P.underlying t = some (.struct fs))
    (hx : DataW.trod enc P W 0 (fun _ => true) true fuel t cs = some x) :
    cs.length = P.cellsOf t ∧ ∃ n, ∀ g ∈ fs.toList, ∃ y, DataW.trod enc P W 0 (fun _ => true) true n g.type ((cs.drop g.offset).take (P.cellsOf g.type)) = some y := by
  cases fuel with
  | zero => simp [DataW.trod] at hx
  | succ n =>
    unfold DataW.trod at hx
    rw [hu] at hx
    simp only at hx
    split at hx
    case isFalse => cases hx
    rename_i hl
    obtain ⟨xs, hxs, _⟩ := Option.map_eq_some_iff.1 hx
    exact ⟨hl, n, fun g hg => mapM_at _ _ hxs g hg⟩

end Go.Proofs.Ytafkoococfnakaa

namespace Go.Proofs.Ytafkoococfnakaa
set_option linter.unusedVariables false
set_option linter.unusedSimpArgs false
open Go.RowKit Go.ChangeShapes

set_option maxRecDepth 100000 in
theorem over_body (p0 p1 p2 p3 h f0 f1 f2 f3 : Int) (o : Bool) (c0 c1 w0 w1 w2 w3 w4 : Int) (hp0 : By p0) (hp1 : By p1) (hp2 : By p2) (hp3 : By p3) (hh : By h) (hf0 : By f0) (hf1 : By f1) (hf2 : By f2) (hf3 : By f3) (hc0 : By c0) (hc1 : By c1) (p0' p1' p2' p3' h' f0' f1' f2' f3' : Int) (o' : Bool) (c0' c1' w0' w1' w2' w3' w4' : Int) (hp0' : By p0') (hp1' : By p1') (hp2' : By p2') (hp3' : By p3') (hh' : By h') (hf0' : By f0') (hf1' : By f1') (hf2' : By f2') (hf3' : By f3') (hc0' : By c0') (hc1' : By c1') (v0 v1 v2 v3 : Int) (hv0 : By v0) (hv1 : By v1) (hv2 : By v2) (hv3 : By v3) (w : World) :
    Calls Try.prog 12 #[.agg #[.int .u8 p0, .int .u8 p1, .int .u8 p2, .int .u8 p3, .int .u8 h, .int .u8 f0, .int .u8 f1, .int .u8 f2, .int .u8 f3, .bool o, .int .u8 c0, .int .u8 c1, .int .u8 w0, .int .u8 w1, .int .u8 w2, .int .u8 w3, .int .u8 w4], .agg #[.int .u8 p0', .int .u8 p1', .int .u8 p2', .int .u8 p3', .int .u8 h', .int .u8 f0', .int .u8 f1', .int .u8 f2', .int .u8 f3', .bool o', .int .u8 c0', .int .u8 c1', .int .u8 w0', .int .u8 w1', .int .u8 w2', .int .u8 w3', .int .u8 w4'], .agg #[.int .u8 v0, .int .u8 v1, .int .u8 v2, .int .u8 v3]] w fun e w' => e = .returned (.bool true) ∧ Gr w w' := by
  obtain ⟨t0, t1, ht, ta, tb, tc⟩ : ∃ t0 t1, topOf o f0 f1 = [t0, t1] ∧ (0 ≤ t0 ∧ t0 ≤ 255) ∧ (0 ≤ t1 ∧ t1 ≤ 255) ∧ (o = true → t0 = 0 ∧ t1 = 0) := by
    cases o with
    | false => exact ⟨f0, f1, rfl, hf0, hf1, fun h => by cases h⟩
    | true => exact ⟨0, 0, rfl, by omega, by omega, fun _ => ⟨rfl, rfl⟩⟩
  obtain ⟨t0', t1', ht', ta', tb', tc'⟩ : ∃ t0 t1, topOf o' f0' f1' = [t0, t1] ∧ (0 ≤ t0 ∧ t0 ≤ 255) ∧ (0 ≤ t1 ∧ t1 ≤ 255) ∧ (o' = true → t0 = 0 ∧ t1 = 0) := by
    cases o' with
    | false => exact ⟨f0', f1', rfl, hf0', hf1', fun h => by cases h⟩
    | true => exact ⟨0, 0, rfl, by omega, by omega, fun _ => ⟨rfl, rfl⟩⟩
  exact over_core _ _ _ _ _ _ _ _ _ _ _ _ _ _ _ _ _ _ _ _ _ _ _ _ _ _ _ _ _ _ _ _ _ _ v0 v1 v2 v3 hv0 hv1 hv2 hv3 (60 + p0) (60 + p1) (60 + p2) (60 + p3) t0 t1 f2 f3 (40 + h) o (60 + p0') (60 + p1') (60 + p2') (60 + p3') t0' t1' f2' f3' (40 + h') o' (1500 + 20 * c0) (1500 + 20 * c0 + 2 * c1) (1500 + 20 * c0') (1500 + 20 * c0' + 2 * c1') (Lib.hid ⟨⟨by have := hp0.1; have := hp0.2; omega, by have := hp0.1; have := hp0.2; omega⟩, ⟨by have := hp1.1; have := hp1.2; omega, by have := hp1.1; have := hp1.2; omega⟩, ⟨by have := hp2.1; have := hp2.2; omega, by have := hp2.1; have := hp2.2; omega⟩, ⟨by have := hp3.1; have := hp3.2; omega, by have := hp3.1; have := hp3.2; omega⟩, ta, tb, hf2, hf3, ⟨by have := hh.1; have := hh.2; omega, by have := hh.1; have := hh.2; omega⟩, tc⟩) (Lib.hid ⟨⟨by have := hp0'.1; have := hp0'.2; omega, by have := hp0'.1; have := hp0'.2; omega⟩, ⟨by have := hp1'.1; have := hp1'.2; omega, by have := hp1'.1; have := hp1'.2; omega⟩, ⟨by have := hp2'.1; have := hp2'.2; omega, by have := hp2'.1; have := hp2'.2; omega⟩, ⟨by have := hp3'.1; have := hp3'.2; omega, by have := hp3'.1; have := hp3'.2; omega⟩, ta', tb', hf2', hf3', ⟨by have := hh'.1; have := hh'.2; omega, by have := hh'.1; have := hh'.2; omega⟩, tc'⟩) (Lib.hid ⟨by have := hc0.1; omega, by have := hc1.1; omega, by have := hc0.2; have := hc1.2; omega⟩) (Lib.hid ⟨by have := hc0'.1; omega, by have := hc1'.1; omega, by have := hc0'.2; have := hc1'.2; omega⟩) (Lib.hid (fun v => (sheetBlank_any p0 p1 p2 p3 h f0 f1 f2 f3 o c0 c1 w0 w1 w2 w3 w4 hp0 hp1 hp2 hp3 hh hf0 hf1 hf2 hf3 v).mono (fun e w2 H => by rw [ht] at H; exact H.new))) (Lib.hid (fun v => (sheetBlank_any p0' p1' p2' p3' h' f0' f1' f2' f3' o' c0' c1' w0' w1' w2' w3' w4' hp0' hp1' hp2' hp3' hh' hf0' hf1' hf2' hf3' v).mono (fun e w2 H => by rw [ht'] at H; exact H.new))) (Lib.hid (fun v => sheetCal_any p0 p1 p2 p3 h f0 f1 f2 f3 o c0 c1 w0 w1 w2 w3 w4 hc0 hc1 v)) (Lib.hid (fun v => sheetCal_any p0' p1' p2' p3' h' f0' f1' f2' f3' o' c0' c1' w0' w1' w2' w3' w4' hc0' hc1' v)) w

set_option maxRecDepth 100000 in
theorem sheet_open {H : Type} {enc : TypeId × Value → H} {W : World} {fuel : Nat} {cs : List Value} {x : DataW H × List MemPlace} (hx : DataW.trod enc Try.prog W 0 (fun _ => true) true fuel 69 cs = some x) :
    ∃ (p0 p1 p2 p3 h f0 f1 f2 f3 : Int) (o : Bool) (c0 c1 w0 w1 w2 w3 w4 : Int), cs = [.int .u8 p0, .int .u8 p1, .int .u8 p2, .int .u8 p3, .int .u8 h, .int .u8 f0, .int .u8 f1, .int .u8 f2, .int .u8 f3, .bool o, .int .u8 c0, .int .u8 c1, .int .u8 w0, .int .u8 w1, .int .u8 w2, .int .u8 w3, .int .u8 w4] ∧ By p0 ∧ By p1 ∧ By p2 ∧ By p3 ∧ By h ∧ By f0 ∧ By f1 ∧ By f2 ∧ By f3 ∧ By c0 ∧ By c1 := by
  obtain ⟨hl, n, hp⟩ := struct_piece Try.underlying69 hx
  rw [show Try.prog.cellsOf 69 = 17 from by kernel_rfl] at hl
  obtain ⟨d0, d1, d2, d3, d4, d5, d6, d7, d8, d9, d10, d11, d12, d13, d14, d15, d16, rfl⟩ : ∃ d0 d1 d2 d3 d4 d5 d6 d7 d8 d9 d10 d11 d12 d13 d14 d15 d16, cs = [d0, d1, d2, d3, d4, d5, d6, d7, d8, d9, d10, d11, d12, d13, d14, d15, d16] := by
    match cs, hl with
    | [d0, d1, d2, d3, d4, d5, d6, d7, d8, d9, d10, d11, d12, d13, d14, d15, d16], _ => exact ⟨d0, d1, d2, d3, d4, d5, d6, d7, d8, d9, d10, d11, d12, d13, d14, d15, d16, rfl⟩
  obtain ⟨y0, h0⟩ := hp _ List.mem_cons_self
  obtain ⟨y1, h1⟩ := hp _ (List.mem_cons_of_mem _ List.mem_cons_self)
  obtain ⟨y2, h2⟩ := hp _ (List.mem_cons_of_mem _ (List.mem_cons_of_mem _ List.mem_cons_self))
  obtain ⟨y3, h3⟩ := hp _ (List.mem_cons_of_mem _ (List.mem_cons_of_mem _ (List.mem_cons_of_mem _ List.mem_cons_self)))
  obtain ⟨y4, h4⟩ := hp _ (List.mem_cons_of_mem _ (List.mem_cons_of_mem _ (List.mem_cons_of_mem _ (List.mem_cons_of_mem _ List.mem_cons_self))))
  obtain ⟨y5, h5⟩ := hp _ (List.mem_cons_of_mem _ (List.mem_cons_of_mem _ (List.mem_cons_of_mem _ (List.mem_cons_of_mem _ (List.mem_cons_of_mem _ List.mem_cons_self)))))
  have g0 : DataW.trod enc Try.prog W 0 (fun _ => true) true n 65 [d0, d1, d2, d3] = some y0 := by
    have e : Try.prog.cellsOf 65 = 4 := by kernel_rfl
    simpa only [List.drop_succ_cons, List.drop_zero, e, List.take_succ_cons, List.take_zero] using h0
  have g1 : DataW.trod enc Try.prog W 0 (fun _ => true) true n 5 [d4] = some y1 := by
    have e : Try.prog.cellsOf 5 = 1 := by kernel_rfl
    simpa only [List.drop_succ_cons, List.drop_zero, e, List.take_succ_cons, List.take_zero] using h1
  have g2 : DataW.trod enc Try.prog W 0 (fun _ => true) true n 65 [d5, d6, d7, d8] = some y2 := by
    have e : Try.prog.cellsOf 65 = 4 := by kernel_rfl
    simpa only [List.drop_succ_cons, List.drop_zero, e, List.take_succ_cons, List.take_zero] using h2
  have g3 : DataW.trod enc Try.prog W 0 (fun _ => true) true n 4 [d9] = some y3 := by
    have e : Try.prog.cellsOf 4 = 1 := by kernel_rfl
    simpa only [List.drop_succ_cons, List.drop_zero, e, List.take_succ_cons, List.take_zero] using h3
  have g4 : DataW.trod enc Try.prog W 0 (fun _ => true) true n 66 [d10, d11] = some y4 := by
    have e : Try.prog.cellsOf 66 = 2 := by kernel_rfl
    simpa only [List.drop_succ_cons, List.drop_zero, e, List.take_succ_cons, List.take_zero] using h4
  have g5 : DataW.trod enc Try.prog W 0 (fun _ => true) true n 67 [d12, d13, d14, d15, d16] = some y5 := by
    have e : Try.prog.cellsOf 67 = 5 := by kernel_rfl
    simpa only [List.drop_succ_cons, List.drop_zero, e, List.take_succ_cons, List.take_zero] using h5
  obtain ⟨_, hat0⟩ := allK_open (k := .u8) 5 65 (by kernel_rfl) _ _ _ g0
  obtain ⟨l0, e0, b0⟩ := ints_of _ hat0
  obtain ⟨p0, p1, p2, p3, rfl⟩ : ∃ p0 p1 p2 p3, l0 = [p0, p1, p2, p3] := by
    have hl4 : l0.length = 4 := by
      have := congrArg List.length e0
      simpa using this.symm
    match l0, hl4 with
    | [p0, p1, p2, p3], _ => exact ⟨p0, p1, p2, p3, rfl⟩
  obtain ⟨h, e1, b1⟩ := int_open Try.underlying5 g1
  obtain ⟨_, hat2⟩ := allK_open (k := .u8) 5 65 (by kernel_rfl) _ _ _ g2
  obtain ⟨l2, e2, b2⟩ := ints_of _ hat2
  obtain ⟨f0, f1, f2, f3, rfl⟩ : ∃ f0 f1 f2 f3, l2 = [f0, f1, f2, f3] := by
    have hl4 : l2.length = 4 := by
      have := congrArg List.length e2
      simpa using this.symm
    match l2, hl4 with
    | [f0, f1, f2, f3], _ => exact ⟨f0, f1, f2, f3, rfl⟩
  obtain ⟨o, e3, _⟩ := DataW.trod_bool Try.underlying4 g3
  obtain ⟨_, hat4⟩ := allK_open (k := .u8) 5 66 (by kernel_rfl) _ _ _ g4
  obtain ⟨l4, e4, b4⟩ := ints_of _ hat4
  obtain ⟨c0, c1, rfl⟩ : ∃ c0 c1, l4 = [c0, c1] := by
    have hl4 : l4.length = 2 := by
      have := congrArg List.length e4
      simpa using this.symm
    match l4, hl4 with
    | [c0, c1], _ => exact ⟨c0, c1, rfl⟩
  obtain ⟨_, hat5⟩ := allK_open (k := .u8) 5 67 (by kernel_rfl) _ _ _ g5
  obtain ⟨l5, e5, b5⟩ := ints_of _ hat5
  obtain ⟨w0, w1, w2, w3, w4, rfl⟩ : ∃ w0 w1 w2 w3 w4, l5 = [w0, w1, w2, w3, w4] := by
    have hl4 : l5.length = 5 := by
      have := congrArg List.length e5
      simpa using this.symm
    match l5, hl4 with
    | [w0, w1, w2, w3, w4], _ => exact ⟨w0, w1, w2, w3, w4, rfl⟩
  simp only [List.map_cons, List.map_nil, List.cons.injEq, and_true] at e0 e1 e2 e3 e4 e5
  obtain ⟨rfl, rfl, rfl, rfl⟩ := e0
  subst e1
  obtain ⟨rfl, rfl, rfl, rfl⟩ := e2
  subst e3
  obtain ⟨rfl, rfl⟩ := e4
  obtain ⟨rfl, rfl, rfl, rfl, rfl⟩ := e5
  exact ⟨p0, p1, p2, p3, h, f0, f1, f2, f3, o, c0, c1, w0, w1, w2, w3, w4, rfl, bounds_u8 (b0 p0 (by simp)), bounds_u8 (b0 p1 (by simp)), bounds_u8 (b0 p2 (by simp)), bounds_u8 (b0 p3 (by simp)), bounds_u8 b1, bounds_u8 (b2 f0 (by simp)), bounds_u8 (b2 f1 (by simp)), bounds_u8 (b2 f2 (by simp)), bounds_u8 (b2 f3 (by simp)), bounds_u8 (b4 c0 (by simp)), bounds_u8 (b4 c1 (by simp))⟩

end Go.Proofs.Ytafkoococfnakaa
