/- CrushRoot's own body. (Made by gen_c2.py.) -/
import Derived.Test.YtiackomjfpgcbaaC1
import Derived.Test.YtiackomjfpgcbaaR5
import Derived.Deep.CutRange
import Derived.Deep.MidRow
import Derived.BigQuiet
namespace Go.Proofs.Ytiackomjfpgcbaa
set_option linter.unusedVariables false
set_option linter.unusedSimpArgs false
open Go.RowKit

/-- What lies at hand after the first lines. -/
structure RootS (w : World) (B5 B6 : Nat) (y0 y1 eL eH cL cH ar ru S0 S1 : Int) (X : World) : Prop where
  gr : Gr w X
  b3 : Box X (w.heap.size + 1) [.int .u8 y0, .int .u8 y1]
  b5 : Box X B5 [.int .i64 eL, .int .i64 eH, .int .i64 cL, .int .i64 cH, .int .i64 ar, .int .i64 ru]
  b6 : Box X B6 [.int .i64 S0, .int .i64 S1]

theorem RootS.keep {w : World} {B5 B6 : Nat} {y0 y1 eL eH cL cH ar ru S0 S1 : Int} {X X' : World} (h : RootS w B5 B6 y0 y1 eL eH cL cH ar ru S0 S1 X) (g : Gr X X') : RootS w B5 B6 y0 y1 eL eH cL cH ar ru S0 S1 X' :=
  ⟨h.gr.tr g, h.b3.keep g, h.b5.keep g, h.b6.keep g⟩

set_option maxRecDepth 100000 in
set_option maxHeartbeats 60000000 in
theorem crushRoot_any (v0 v1 v2 v3 v4 v5 y0 y1 : Int) (h0 : 0 ≤ v0 ∧ v0 ≤ 65535) (h1 : 0 ≤ v1 ∧ v1 ≤ 65535) (h2 : 0 ≤ v2 ∧ v2 ≤ 65535) (h3 : 0 ≤ v3 ∧ v3 ≤ 65535) (h4 : 0 ≤ v4 ∧ v4 ≤ 65535) (h5 : 0 ≤ v5 ∧ v5 ≤ 65535) (hy0 : 0 ≤ y0 ∧ y0 ≤ 255) (hy1 : 0 ≤ y1 ∧ y1 ≤ 255) (w : World) :
    Calls Try.prog 12 #[.agg #[.int .u16 v0, .int .u16 v1, .int .u16 v2, .int .u16 v3, .int .u16 v4, .int .u16 v5], .agg #[.int .u8 y0, .int .u8 y1]] w fun e w' => e = .returned (.bool true) ∧ Gr w w' := by
  have gg := (Gr.al w (.cells #[.int .u16 v0, .int .u16 v1, .int .u16 v2, .int .u16 v3, .int .u16 v4, .int .u16 v5] 99)).tr (Gr.al _ (.cells #[.int .u8 y0, .int .u8 y1] 100))
  have hx := (Box.new w [.int .u16 v0, .int .u16 v1, .int .u16 v2, .int .u16 v3, .int .u16 v4, .int .u16 v5] 99 w.heap.size rfl).keep (Gr.al _ (.cells #[.int .u8 y0, .int .u8 y1] 100))
  have hv := Own.new (w.alloc (.cells #[.int .u16 v0, .int .u16 v1, .int .u16 v2, .int .u16 v3, .int .u16 v4, .int .u16 v5] 99)) [.int .u8 y0, .int .u8 y1] 100 (w.heap.size + 1) (by simp)
  go_enter Try.func12, Try.ntmps12
  go_upto_region 1 with fail
  refine wp_abs (fun U => Gr w U ∧ Box U w.heap.size [.int .u16 v0, .int .u16 v1, .int .u16 v2, .int .u16 v3, .int .u16 v4, .int .u16 v5] ∧ Own U (w.heap.size + 1) [.int .u8 y0, .int .u8 y1]) ⟨gg, hx, hv⟩ ?_
  clear gg hx hv
  rintro U ⟨gg, hx, hv⟩
  have q0 := hx.2 0 _ rfl
  have q1 := hx.2 1 _ rfl
  have q2 := hx.2 2 _ rfl
  have q3 := hx.2 3 _ rfl
  have q4 := hx.2 4 _ rfl
  have q5 := hx.2 5 _ rfl
  have hUs : w.heap.size + 1 < U.heap.size := hv.1.1
  obtain ⟨a0, b0⟩ := h0
  obtain ⟨a1, b1⟩ := h1
  obtain ⟨a2, b2⟩ := h2
  obtain ⟨a3, b3⟩ := h3
  obtain ⟨a4, b4⟩ := h4
  obtain ⟨a5, b5⟩ := h5
  obtain ⟨m1, hm1⟩ : ∃ m, v1 % 1000 = m := ⟨_, rfl⟩
  obtain ⟨m2, hm2⟩ : ∃ m, v2 % 8000 = m := ⟨_, rfl⟩
  obtain ⟨m3, hm3⟩ : ∃ m, v3 % 2000 = m := ⟨_, rfl⟩
  obtain ⟨m4, hm4⟩ : ∃ m, v4 % 15000 = m := ⟨_, rfl⟩
  obtain ⟨m5, hm5⟩ : ∃ m, v5 % 1000 = m := ⟨_, rfl⟩
  obtain ⟨eH, heH⟩ : ∃ x, v0 + m1 = x := ⟨_, rfl⟩
  obtain ⟨cL, hcL⟩ : ∃ x, 1 + m2 = x := ⟨_, rfl⟩
  obtain ⟨cH, hcH⟩ : ∃ x, cL + m3 = x := ⟨_, rfl⟩
  obtain ⟨ar, har⟩ : ∃ x, 1 + m4 = x := ⟨_, rfl⟩
  obtain ⟨ru, hru⟩ : ∃ x, 1 + m5 = x := ⟨_, rfl⟩
  have z1 : v1.tmod 1000 = m1 := by rw [Int.tmod_eq_emod_of_nonneg a1]; exact hm1
  have z2 : v2.tmod 8000 = m2 := by rw [Int.tmod_eq_emod_of_nonneg a2]; exact hm2
  have z3 : v3.tmod 2000 = m3 := by rw [Int.tmod_eq_emod_of_nonneg a3]; exact hm3
  have z4 : v4.tmod 15000 = m4 := by rw [Int.tmod_eq_emod_of_nonneg a4]; exact hm4
  have z5 : v5.tmod 1000 = m5 := by rw [Int.tmod_eq_emod_of_nonneg a5]; exact hm5
  have w1 : IntKind.i64.wrap (v0 + m1) = eH := by rw [IntWalk.i64_in _ (by omega)]; exact heH
  have w2 : IntKind.i64.wrap (1 + m2) = cL := by rw [IntWalk.i64_in _ (by omega)]; exact hcL
  have w3 : IntKind.i64.wrap (cL + m3) = cH := by rw [IntWalk.i64_in _ (by omega)]; exact hcH
  have w4 : IntKind.i64.wrap (1 + m4) = ar := by rw [IntWalk.i64_in _ (by omega)]; exact har
  have w5 : IntKind.i64.wrap (1 + m5) = ru := by rw [IntWalk.i64_in _ (by omega)]; exact hru
  have c1 : IntKind.i64.wrap m1 = m1 := IntWalk.i64_in _ (by omega)
  have c2 : IntKind.i64.wrap m2 = m2 := IntWalk.i64_in _ (by omega)
  have c3 : IntKind.i64.wrap m3 = m3 := IntWalk.i64_in _ (by omega)
  have c4 : IntKind.i64.wrap m4 = m4 := IntWalk.i64_in _ (by omega)
  have c5 : IntKind.i64.wrap m5 = m5 := IntWalk.i64_in _ (by omega)
  have k0 : IntKind.i64.wrap v0 = v0 := IntWalk.i64_in _ (by omega)
  have k1 : IntKind.i64.wrap v1 = v1 := IntWalk.i64_in _ (by omega)
  have k2 : IntKind.i64.wrap v2 = v2 := IntWalk.i64_in _ (by omega)
  have k3 : IntKind.i64.wrap v3 = v3 := IntWalk.i64_in _ (by omega)
  have k4 : IntKind.i64.wrap v4 = v4 := IntWalk.i64_in _ (by omega)
  have k5 : IntKind.i64.wrap v5 = v5 := IntWalk.i64_in _ (by omega)
  have eB : v0 ≤ eH ∧ eH ≤ v0 + 999 := by omega
  have cB : 1 ≤ cL ∧ cL ≤ cH ∧ cH ≤ 10000 := by omega
  have aB : 1 ≤ ar ∧ ar ≤ 15000 := by omega
  have rB : 1 ≤ ru ∧ ru ≤ 1000 := by omega
  have HB := Lib.hid (And.intro eB (And.intro cB (And.intro aB rB)))
  clear hm1 hm2 hm3 hm4 hm5 heH hcL hcH har hru eB cB aB rB
  refine wp_region_facts 40 [(1, 0), (2, 1), (4, 3), (5, 4), (7, 6), (8, 7), (9, 8), (10, 5), (10, 9), (11, 2), (11, 10), (13, 12), (14, 13), (15, 14), (16, 15), (18, 17), (19, 18), (20, 19), (21, 20), (23, 22), (24, 23), (25, 24), (26, 21), (26, 25), (27, 16), (27, 26), (29, 28), (30, 29), (31, 30), (32, 31), (34, 33), (35, 34), (36, 35), (37, 36), (38, 11), (38, 27), (38, 32), (38, 37)] (fun x => ⟨#[.agg #[.int .u16 v0, .int .u16 v1, .int .u16 v2, .int .u16 v3, .int .u16 v4, .int .u16 v5], .agg #[.int .u8 y0, .int .u8 y1], .pointer (some ⟨w.heap.size, 0, none⟩), .pointer (some ⟨(w.heap.size + 1), 0, none⟩), .bool false, x 39, undef, undef, undef, undef, undef, undef, undef, undef, undef, undef, undef, undef, undef, undef, x 0, x 1, x 2, x 3, x 4, x 5, x 6, x 7, x 8, x 9, x 10, x 11, x 12, x 13, x 14, x 15, x 16, x 17, x 18, x 19, x 20, x 21, x 22, x 23, x 24, x 25, x 26, x 27, x 28, x 29, x 30, x 31, x 32, x 33, x 34, x 35, x 36, x 37, x 38, undef, undef, undef, undef, undef, undef, undef, undef, undef, undef, undef, undef, undef, undef, undef, undef, undef, undef, undef, undef, undef, undef, undef, undef, undef, undef, undef, undef, undef, undef, undef, undef, undef, undef, undef, undef, undef, undef, undef, undef, undef, undef, undef, undef, undef, undef, undef, undef, undef, undef, undef, undef, undef, undef, undef, undef, undef, undef, undef, undef, undef, undef, undef, undef, undef, undef, undef, undef, undef, undef, undef, undef, undef, undef, undef, undef, undef, undef, undef, undef, undef, undef, undef, undef, undef, undef, undef, undef, undef, undef, undef, undef, undef, undef, undef, undef, undef, undef, undef, undef, undef, undef, undef, undef, undef, undef, undef, undef, undef, undef, undef, undef, undef, undef, undef, undef, undef, undef, undef, undef, undef, undef, undef, undef, undef, undef, undef, undef, undef, undef, undef, undef, undef, undef, undef, undef, undef, undef, undef, undef, undef, undef, undef, undef, undef, undef, undef, undef, undef, undef, undef, undef, undef, undef, undef, undef, undef, undef, undef, undef, undef, undef, undef, undef, undef, undef, undef, undef, undef, undef, undef, undef, undef, undef, undef, undef, undef, undef, undef, undef, undef, undef, undef, undef, undef, undef, undef, undef, undef, undef, undef], []⟩) (fun _ => undef) [fun _ x => x = .pointer (some ⟨w.heap.size, 0, none⟩), fun _ x => x = .int .u16 v0, fun _ x => x = .int .i64 v0, fun _ x => x = .pointer (some ⟨w.heap.size, 0, none⟩), fun _ x => x = .int .u16 v0, fun _ x => x = .int .i64 v0, fun _ x => x = .pointer (some ⟨w.heap.size, 1, none⟩), fun _ x => x = .int .u16 v1, fun _ x => x = .int .i64 v1, fun _ x => x = .int .i64 m1, fun _ x => x = .int .i64 eH, fun _ x => x = .agg #[.int .i64 v0, .int .i64 eH], fun _ x => x = .pointer (some ⟨w.heap.size, 2, none⟩), fun _ x => x = .int .u16 v2, fun _ x => x = .int .i64 v2, fun _ x => x = .int .i64 m2, fun _ x => x = .int .i64 cL, fun _ x => x = .pointer (some ⟨w.heap.size, 2, none⟩), fun _ x => x = .int .u16 v2, fun _ x => x = .int .i64 v2, fun _ x => x = .int .i64 m2, fun _ x => x = .int .i64 cL, fun _ x => x = .pointer (some ⟨w.heap.size, 3, none⟩), fun _ x => x = .int .u16 v3, fun _ x => x = .int .i64 v3, fun _ x => x = .int .i64 m3, fun _ x => x = .int .i64 cH, fun _ x => x = .agg #[.int .i64 cL, .int .i64 cH], fun _ x => x = .pointer (some ⟨w.heap.size, 4, none⟩), fun _ x => x = .int .u16 v4, fun _ x => x = .int .i64 v4, fun _ x => x = .int .i64 m4, fun _ x => x = .int .i64 ar, fun _ x => x = .pointer (some ⟨w.heap.size, 5, none⟩), fun _ x => x = .int .u16 v5, fun _ x => x = .int .i64 v5, fun _ x => x = .int .i64 m5, fun _ x => x = .int .i64 ru, fun _ x => x = .agg #[.int .i64 v0, .int .i64 eH, .int .i64 cL, .int .i64 cH, .int .i64 ar, .int .i64 ru], fun v x => ∃ B, x = .pointer (some ⟨B, 0, none⟩) ∧ w.heap.size + 1 < B ∧ Own v B [.int .i64 0, .int .i64 0, .int .i64 0, .int .i64 0, .int .i64 0, .int .i64 0]] (by rfl) (by kernel_rfl) (by kernel_rfl) (by kernel_rfl) (stays_cons (Stays.eq _) (stays_cons (Stays.eq _) (stays_cons (Stays.eq _) (stays_cons (Stays.eq _) (stays_cons (Stays.eq _) (stays_cons (Stays.eq _) (stays_cons (Stays.eq _) (stays_cons (Stays.eq _) (stays_cons (Stays.eq _) (stays_cons (Stays.eq _) (stays_cons (Stays.eq _) (stays_cons (Stays.eq _) (stays_cons (Stays.eq _) (stays_cons (Stays.eq _) (stays_cons (Stays.eq _) (stays_cons (Stays.eq _) (stays_cons (Stays.eq _) (stays_cons (Stays.eq _) (stays_cons (Stays.eq _) (stays_cons (Stays.eq _) (stays_cons (Stays.eq _) (stays_cons (Stays.eq _) (stays_cons (Stays.eq _) (stays_cons (Stays.eq _) (stays_cons (Stays.eq _) (stays_cons (Stays.eq _) (stays_cons (Stays.eq _) (stays_cons (Stays.eq _) (stays_cons (Stays.eq _) (stays_cons (Stays.eq _) (stays_cons (Stays.eq _) (stays_cons (Stays.eq _) (stays_cons (Stays.eq _) (stays_cons (Stays.eq _) (stays_cons (Stays.eq _) (stays_cons (Stays.eq _) (stays_cons (Stays.eq _) (stays_cons (Stays.eq _) (stays_cons (Stays.eq _) (stays_cons ((show Stays (fun v x => ∃ B, x = .pointer (some ⟨B, 0, none⟩) ∧ w.heap.size + 1 < B ∧ Own v B [.int .i64 0, .int .i64 0, .int .i64 0, .int .i64 0, .int .i64 0, .int .i64 0]) from fun v v' x g ⟨b, h, l, r⟩ => ⟨b, h, l, r.keep g⟩)) stays_nil)))))))))))))))))))))))))))))))))))))))) ?step1 ?fin1
  case step1 =>
    rintro i hi x v gv hd K hK
    have hi8 : i = 0 ∨ i = 1 ∨ i = 2 ∨ i = 3 ∨ i = 4 ∨ i = 5 ∨ i = 6 ∨ i = 7 ∨ i = 8 ∨ i = 9 ∨ i = 10 ∨ i = 11 ∨ i = 12 ∨ i = 13 ∨ i = 14 ∨ i = 15 ∨ i = 16 ∨ i = 17 ∨ i = 18 ∨ i = 19 ∨ i = 20 ∨ i = 21 ∨ i = 22 ∨ i = 23 ∨ i = 24 ∨ i = 25 ∨ i = 26 ∨ i = 27 ∨ i = 28 ∨ i = 29 ∨ i = 30 ∨ i = 31 ∨ i = 32 ∨ i = 33 ∨ i = 34 ∨ i = 35 ∨ i = 36 ∨ i = 37 ∨ i = 38 ∨ i = 39 := by omega
    rcases hi8 with rfl | rfl | rfl | rfl | rfl | rfl | rfl | rfl | rfl | rfl | rfl | rfl | rfl | rfl | rfl | rfl | rfl | rfl | rfl | rfl | rfl | rfl | rfl | rfl | rfl | rfl | rfl | rfl | rfl | rfl | rfl | rfl | rfl | rfl | rfl | rfl | rfl | rfl | rfl | rfl
    · show wpOp Try.prog _ _ 0 K (⟨#[_, _, _, _, _, x 39, _, _, _, _, _, _, _, _, _, _, _, _, _, _, x 0, x 1, x 2, x 3, x 4, x 5, x 6, x 7, x 8, x 9, x 10, x 11, x 12, x 13, x 14, x 15, x 16, x 17, x 18, x 19, x 20, x 21, x 22, x 23, x 24, x 25, x 26, x 27, x 28, x 29, x 30, x 31, x 32, x 33, x 34, x 35, x 36, x 37, x 38, _, _, _, _, _, _, _, _, _, _, _, _, _, _, _, _, _, _, _, _, _, _, _, _, _, _, _, _, _, _, _, _, _, _, _, _, _, _, _, _, _, _, _, _, _, _, _, _, _, _, _, _, _, _, _, _, _, _, _, _, _, _, _, _, _, _, _, _, _, _, _, _, _, _, _, _, _, _, _, _, _, _, _, _, _, _, _, _, _, _, _, _, _, _, _, _, _, _, _, _, _, _, _, _, _, _, _, _, _, _, _, _, _, _, _, _, _, _, _, _, _, _, _, _, _, _, _, _, _, _, _, _, _, _, _, _, _, _, _, _, _, _, _, _, _, _, _, _, _, _, _, _, _, _, _, _, _, _, _, _, _, _, _, _, _, _, _, _, _, _, _, _, _, _, _, _, _, _, _, _, _, _, _, _, _, _, _, _, _, _, _], []⟩ : Act) v
      refine wpOp_step rfl (fun K' hK' => ?_)
      go_simp
      exact hK' _ _ (hK _ _ (Below.refl _ _) (at_of rfl (rfl)))
    · obtain ⟨x, rfl⟩ := upd_of (show x 0 = .pointer (some ⟨w.heap.size, 0, none⟩) from hd 0 _ (by simp) rfl)
      show wpOp Try.prog _ _ 1 K (⟨#[_, _, _, _, _, x 39, _, _, _, _, _, _, _, _, _, _, _, _, _, _, .pointer (some ⟨w.heap.size, 0, none⟩), x 1, x 2, x 3, x 4, x 5, x 6, x 7, x 8, x 9, x 10, x 11, x 12, x 13, x 14, x 15, x 16, x 17, x 18, x 19, x 20, x 21, x 22, x 23, x 24, x 25, x 26, x 27, x 28, x 29, x 30, x 31, x 32, x 33, x 34, x 35, x 36, x 37, x 38, _, _, _, _, _, _, _, _, _, _, _, _, _, _, _, _, _, _, _, _, _, _, _, _, _, _, _, _, _, _, _, _, _, _, _, _, _, _, _, _, _, _, _, _, _, _, _, _, _, _, _, _, _, _, _, _, _, _, _, _, _, _, _, _, _, _, _, _, _, _, _, _, _, _, _, _, _, _, _, _, _, _, _, _, _, _, _, _, _, _, _, _, _, _, _, _, _, _, _, _, _, _, _, _, _, _, _, _, _, _, _, _, _, _, _, _, _, _, _, _, _, _, _, _, _, _, _, _, _, _, _, _, _, _, _, _, _, _, _, _, _, _, _, _, _, _, _, _, _, _, _, _, _, _, _, _, _, _, _, _, _, _, _, _, _, _, _, _, _, _, _, _, _, _, _, _, _, _, _, _, _, _, _, _, _, _, _, _, _, _, _], []⟩ : Act) v
      refine wpOp_step rfl (fun K' hK' => ?_)
      have q := gv.keep q0
      go_simp
      exact hK' _ _ (hK _ _ (Below.refl _ _) (at_of rfl (rfl)))
    · obtain ⟨x, rfl⟩ := upd_of (show x 1 = .int .u16 v0 from hd 1 _ (by simp) rfl)
      show wpOp Try.prog _ _ 2 K (⟨#[_, _, _, _, _, x 39, _, _, _, _, _, _, _, _, _, _, _, _, _, _, x 0, .int .u16 v0, x 2, x 3, x 4, x 5, x 6, x 7, x 8, x 9, x 10, x 11, x 12, x 13, x 14, x 15, x 16, x 17, x 18, x 19, x 20, x 21, x 22, x 23, x 24, x 25, x 26, x 27, x 28, x 29, x 30, x 31, x 32, x 33, x 34, x 35, x 36, x 37, x 38, _, _, _, _, _, _, _, _, _, _, _, _, _, _, _, _, _, _, _, _, _, _, _, _, _, _, _, _, _, _, _, _, _, _, _, _, _, _, _, _, _, _, _, _, _, _, _, _, _, _, _, _, _, _, _, _, _, _, _, _, _, _, _, _, _, _, _, _, _, _, _, _, _, _, _, _, _, _, _, _, _, _, _, _, _, _, _, _, _, _, _, _, _, _, _, _, _, _, _, _, _, _, _, _, _, _, _, _, _, _, _, _, _, _, _, _, _, _, _, _, _, _, _, _, _, _, _, _, _, _, _, _, _, _, _, _, _, _, _, _, _, _, _, _, _, _, _, _, _, _, _, _, _, _, _, _, _, _, _, _, _, _, _, _, _, _, _, _, _, _, _, _, _, _, _, _, _, _, _, _, _, _, _, _, _, _, _, _, _, _, _], []⟩ : Act) v
      refine wpOp_step rfl (fun K' hK' => ?_)
      go_simp
      exact hK' _ _ (hK _ _ (Below.refl _ _) (at_of rfl (rfl)))
    · show wpOp Try.prog _ _ 3 K (⟨#[_, _, _, _, _, x 39, _, _, _, _, _, _, _, _, _, _, _, _, _, _, x 0, x 1, x 2, x 3, x 4, x 5, x 6, x 7, x 8, x 9, x 10, x 11, x 12, x 13, x 14, x 15, x 16, x 17, x 18, x 19, x 20, x 21, x 22, x 23, x 24, x 25, x 26, x 27, x 28, x 29, x 30, x 31, x 32, x 33, x 34, x 35, x 36, x 37, x 38, _, _, _, _, _, _, _, _, _, _, _, _, _, _, _, _, _, _, _, _, _, _, _, _, _, _, _, _, _, _, _, _, _, _, _, _, _, _, _, _, _, _, _, _, _, _, _, _, _, _, _, _, _, _, _, _, _, _, _, _, _, _, _, _, _, _, _, _, _, _, _, _, _, _, _, _, _, _, _, _, _, _, _, _, _, _, _, _, _, _, _, _, _, _, _, _, _, _, _, _, _, _, _, _, _, _, _, _, _, _, _, _, _, _, _, _, _, _, _, _, _, _, _, _, _, _, _, _, _, _, _, _, _, _, _, _, _, _, _, _, _, _, _, _, _, _, _, _, _, _, _, _, _, _, _, _, _, _, _, _, _, _, _, _, _, _, _, _, _, _, _, _, _, _, _, _, _, _, _, _, _, _, _, _, _, _, _, _, _, _, _], []⟩ : Act) v
      refine wpOp_step rfl (fun K' hK' => ?_)
      go_simp
      exact hK' _ _ (hK _ _ (Below.refl _ _) (at_of rfl (rfl)))
    · obtain ⟨x, rfl⟩ := upd_of (show x 3 = .pointer (some ⟨w.heap.size, 0, none⟩) from hd 3 _ (by simp) rfl)
      show wpOp Try.prog _ _ 4 K (⟨#[_, _, _, _, _, x 39, _, _, _, _, _, _, _, _, _, _, _, _, _, _, x 0, x 1, x 2, .pointer (some ⟨w.heap.size, 0, none⟩), x 4, x 5, x 6, x 7, x 8, x 9, x 10, x 11, x 12, x 13, x 14, x 15, x 16, x 17, x 18, x 19, x 20, x 21, x 22, x 23, x 24, x 25, x 26, x 27, x 28, x 29, x 30, x 31, x 32, x 33, x 34, x 35, x 36, x 37, x 38, _, _, _, _, _, _, _, _, _, _, _, _, _, _, _, _, _, _, _, _, _, _, _, _, _, _, _, _, _, _, _, _, _, _, _, _, _, _, _, _, _, _, _, _, _, _, _, _, _, _, _, _, _, _, _, _, _, _, _, _, _, _, _, _, _, _, _, _, _, _, _, _, _, _, _, _, _, _, _, _, _, _, _, _, _, _, _, _, _, _, _, _, _, _, _, _, _, _, _, _, _, _, _, _, _, _, _, _, _, _, _, _, _, _, _, _, _, _, _, _, _, _, _, _, _, _, _, _, _, _, _, _, _, _, _, _, _, _, _, _, _, _, _, _, _, _, _, _, _, _, _, _, _, _, _, _, _, _, _, _, _, _, _, _, _, _, _, _, _, _, _, _, _, _, _, _, _, _, _, _, _, _, _, _, _, _, _, _, _, _, _], []⟩ : Act) v
      refine wpOp_step rfl (fun K' hK' => ?_)
      have q := gv.keep q0
      go_simp
      exact hK' _ _ (hK _ _ (Below.refl _ _) (at_of rfl (rfl)))
    · obtain ⟨x, rfl⟩ := upd_of (show x 4 = .int .u16 v0 from hd 4 _ (by simp) rfl)
      show wpOp Try.prog _ _ 5 K (⟨#[_, _, _, _, _, x 39, _, _, _, _, _, _, _, _, _, _, _, _, _, _, x 0, x 1, x 2, x 3, .int .u16 v0, x 5, x 6, x 7, x 8, x 9, x 10, x 11, x 12, x 13, x 14, x 15, x 16, x 17, x 18, x 19, x 20, x 21, x 22, x 23, x 24, x 25, x 26, x 27, x 28, x 29, x 30, x 31, x 32, x 33, x 34, x 35, x 36, x 37, x 38, _, _, _, _, _, _, _, _, _, _, _, _, _, _, _, _, _, _, _, _, _, _, _, _, _, _, _, _, _, _, _, _, _, _, _, _, _, _, _, _, _, _, _, _, _, _, _, _, _, _, _, _, _, _, _, _, _, _, _, _, _, _, _, _, _, _, _, _, _, _, _, _, _, _, _, _, _, _, _, _, _, _, _, _, _, _, _, _, _, _, _, _, _, _, _, _, _, _, _, _, _, _, _, _, _, _, _, _, _, _, _, _, _, _, _, _, _, _, _, _, _, _, _, _, _, _, _, _, _, _, _, _, _, _, _, _, _, _, _, _, _, _, _, _, _, _, _, _, _, _, _, _, _, _, _, _, _, _, _, _, _, _, _, _, _, _, _, _, _, _, _, _, _, _, _, _, _, _, _, _, _, _, _, _, _, _, _, _, _, _, _], []⟩ : Act) v
      refine wpOp_step rfl (fun K' hK' => ?_)
      go_simp
      exact hK' _ _ (hK _ _ (Below.refl _ _) (at_of rfl (rfl)))
    · show wpOp Try.prog _ _ 6 K (⟨#[_, _, _, _, _, x 39, _, _, _, _, _, _, _, _, _, _, _, _, _, _, x 0, x 1, x 2, x 3, x 4, x 5, x 6, x 7, x 8, x 9, x 10, x 11, x 12, x 13, x 14, x 15, x 16, x 17, x 18, x 19, x 20, x 21, x 22, x 23, x 24, x 25, x 26, x 27, x 28, x 29, x 30, x 31, x 32, x 33, x 34, x 35, x 36, x 37, x 38, _, _, _, _, _, _, _, _, _, _, _, _, _, _, _, _, _, _, _, _, _, _, _, _, _, _, _, _, _, _, _, _, _, _, _, _, _, _, _, _, _, _, _, _, _, _, _, _, _, _, _, _, _, _, _, _, _, _, _, _, _, _, _, _, _, _, _, _, _, _, _, _, _, _, _, _, _, _, _, _, _, _, _, _, _, _, _, _, _, _, _, _, _, _, _, _, _, _, _, _, _, _, _, _, _, _, _, _, _, _, _, _, _, _, _, _, _, _, _, _, _, _, _, _, _, _, _, _, _, _, _, _, _, _, _, _, _, _, _, _, _, _, _, _, _, _, _, _, _, _, _, _, _, _, _, _, _, _, _, _, _, _, _, _, _, _, _, _, _, _, _, _, _, _, _, _, _, _, _, _, _, _, _, _, _, _, _, _, _, _, _], []⟩ : Act) v
      refine wpOp_step rfl (fun K' hK' => ?_)
      go_simp
      exact hK' _ _ (hK _ _ (Below.refl _ _) (at_of rfl (rfl)))
    · obtain ⟨x, rfl⟩ := upd_of (show x 6 = .pointer (some ⟨w.heap.size, 1, none⟩) from hd 6 _ (by simp) rfl)
      show wpOp Try.prog _ _ 7 K (⟨#[_, _, _, _, _, x 39, _, _, _, _, _, _, _, _, _, _, _, _, _, _, x 0, x 1, x 2, x 3, x 4, x 5, .pointer (some ⟨w.heap.size, 1, none⟩), x 7, x 8, x 9, x 10, x 11, x 12, x 13, x 14, x 15, x 16, x 17, x 18, x 19, x 20, x 21, x 22, x 23, x 24, x 25, x 26, x 27, x 28, x 29, x 30, x 31, x 32, x 33, x 34, x 35, x 36, x 37, x 38, _, _, _, _, _, _, _, _, _, _, _, _, _, _, _, _, _, _, _, _, _, _, _, _, _, _, _, _, _, _, _, _, _, _, _, _, _, _, _, _, _, _, _, _, _, _, _, _, _, _, _, _, _, _, _, _, _, _, _, _, _, _, _, _, _, _, _, _, _, _, _, _, _, _, _, _, _, _, _, _, _, _, _, _, _, _, _, _, _, _, _, _, _, _, _, _, _, _, _, _, _, _, _, _, _, _, _, _, _, _, _, _, _, _, _, _, _, _, _, _, _, _, _, _, _, _, _, _, _, _, _, _, _, _, _, _, _, _, _, _, _, _, _, _, _, _, _, _, _, _, _, _, _, _, _, _, _, _, _, _, _, _, _, _, _, _, _, _, _, _, _, _, _, _, _, _, _, _, _, _, _, _, _, _, _, _, _, _, _, _, _], []⟩ : Act) v
      refine wpOp_step rfl (fun K' hK' => ?_)
      have q := gv.keep q1
      go_simp
      exact hK' _ _ (hK _ _ (Below.refl _ _) (at_of rfl (rfl)))
    · obtain ⟨x, rfl⟩ := upd_of (show x 7 = .int .u16 v1 from hd 7 _ (by simp) rfl)
      show wpOp Try.prog _ _ 8 K (⟨#[_, _, _, _, _, x 39, _, _, _, _, _, _, _, _, _, _, _, _, _, _, x 0, x 1, x 2, x 3, x 4, x 5, x 6, .int .u16 v1, x 8, x 9, x 10, x 11, x 12, x 13, x 14, x 15, x 16, x 17, x 18, x 19, x 20, x 21, x 22, x 23, x 24, x 25, x 26, x 27, x 28, x 29, x 30, x 31, x 32, x 33, x 34, x 35, x 36, x 37, x 38, _, _, _, _, _, _, _, _, _, _, _, _, _, _, _, _, _, _, _, _, _, _, _, _, _, _, _, _, _, _, _, _, _, _, _, _, _, _, _, _, _, _, _, _, _, _, _, _, _, _, _, _, _, _, _, _, _, _, _, _, _, _, _, _, _, _, _, _, _, _, _, _, _, _, _, _, _, _, _, _, _, _, _, _, _, _, _, _, _, _, _, _, _, _, _, _, _, _, _, _, _, _, _, _, _, _, _, _, _, _, _, _, _, _, _, _, _, _, _, _, _, _, _, _, _, _, _, _, _, _, _, _, _, _, _, _, _, _, _, _, _, _, _, _, _, _, _, _, _, _, _, _, _, _, _, _, _, _, _, _, _, _, _, _, _, _, _, _, _, _, _, _, _, _, _, _, _, _, _, _, _, _, _, _, _, _, _, _, _, _, _], []⟩ : Act) v
      refine wpOp_step rfl (fun K' hK' => ?_)
      go_simp
      exact hK' _ _ (hK _ _ (Below.refl _ _) (at_of rfl (rfl)))
    · obtain ⟨x, rfl⟩ := upd_of (show x 8 = .int .i64 v1 from hd 8 _ (by simp) rfl)
      show wpOp Try.prog _ _ 9 K (⟨#[_, _, _, _, _, x 39, _, _, _, _, _, _, _, _, _, _, _, _, _, _, x 0, x 1, x 2, x 3, x 4, x 5, x 6, x 7, .int .i64 v1, x 9, x 10, x 11, x 12, x 13, x 14, x 15, x 16, x 17, x 18, x 19, x 20, x 21, x 22, x 23, x 24, x 25, x 26, x 27, x 28, x 29, x 30, x 31, x 32, x 33, x 34, x 35, x 36, x 37, x 38, _, _, _, _, _, _, _, _, _, _, _, _, _, _, _, _, _, _, _, _, _, _, _, _, _, _, _, _, _, _, _, _, _, _, _, _, _, _, _, _, _, _, _, _, _, _, _, _, _, _, _, _, _, _, _, _, _, _, _, _, _, _, _, _, _, _, _, _, _, _, _, _, _, _, _, _, _, _, _, _, _, _, _, _, _, _, _, _, _, _, _, _, _, _, _, _, _, _, _, _, _, _, _, _, _, _, _, _, _, _, _, _, _, _, _, _, _, _, _, _, _, _, _, _, _, _, _, _, _, _, _, _, _, _, _, _, _, _, _, _, _, _, _, _, _, _, _, _, _, _, _, _, _, _, _, _, _, _, _, _, _, _, _, _, _, _, _, _, _, _, _, _, _, _, _, _, _, _, _, _, _, _, _, _, _, _, _, _, _, _, _], []⟩ : Act) v
      refine wpOp_step rfl (fun K' hK' => ?_)
      go_simp
      exact hK' _ _ (hK _ _ (Below.refl _ _) (at_of rfl (rfl)))
    · obtain ⟨x, rfl⟩ := upd_of (show x 5 = .int .i64 v0 from hd 5 _ (by simp) rfl)
      obtain ⟨x, rfl⟩ := upd_of (show x 9 = .int .i64 m1 from hd 9 _ (by simp) rfl)
      show wpOp Try.prog _ _ 10 K (⟨#[_, _, _, _, _, x 39, _, _, _, _, _, _, _, _, _, _, _, _, _, _, x 0, x 1, x 2, x 3, x 4, .int .i64 v0, x 6, x 7, x 8, .int .i64 m1, x 10, x 11, x 12, x 13, x 14, x 15, x 16, x 17, x 18, x 19, x 20, x 21, x 22, x 23, x 24, x 25, x 26, x 27, x 28, x 29, x 30, x 31, x 32, x 33, x 34, x 35, x 36, x 37, x 38, _, _, _, _, _, _, _, _, _, _, _, _, _, _, _, _, _, _, _, _, _, _, _, _, _, _, _, _, _, _, _, _, _, _, _, _, _, _, _, _, _, _, _, _, _, _, _, _, _, _, _, _, _, _, _, _, _, _, _, _, _, _, _, _, _, _, _, _, _, _, _, _, _, _, _, _, _, _, _, _, _, _, _, _, _, _, _, _, _, _, _, _, _, _, _, _, _, _, _, _, _, _, _, _, _, _, _, _, _, _, _, _, _, _, _, _, _, _, _, _, _, _, _, _, _, _, _, _, _, _, _, _, _, _, _, _, _, _, _, _, _, _, _, _, _, _, _, _, _, _, _, _, _, _, _, _, _, _, _, _, _, _, _, _, _, _, _, _, _, _, _, _, _, _, _, _, _, _, _, _, _, _, _, _, _, _, _, _, _, _, _], []⟩ : Act) v
      refine wpOp_step rfl (fun K' hK' => ?_)
      go_simp
      exact hK' _ _ (hK _ _ (Below.refl _ _) (at_of rfl (rfl)))
    · obtain ⟨x, rfl⟩ := upd_of (show x 2 = .int .i64 v0 from hd 2 _ (by simp) rfl)
      obtain ⟨x, rfl⟩ := upd_of (show x 10 = .int .i64 eH from hd 10 _ (by simp) rfl)
      show wpOp Try.prog _ _ 11 K (⟨#[_, _, _, _, _, x 39, _, _, _, _, _, _, _, _, _, _, _, _, _, _, x 0, x 1, .int .i64 v0, x 3, x 4, x 5, x 6, x 7, x 8, x 9, .int .i64 eH, x 11, x 12, x 13, x 14, x 15, x 16, x 17, x 18, x 19, x 20, x 21, x 22, x 23, x 24, x 25, x 26, x 27, x 28, x 29, x 30, x 31, x 32, x 33, x 34, x 35, x 36, x 37, x 38, _, _, _, _, _, _, _, _, _, _, _, _, _, _, _, _, _, _, _, _, _, _, _, _, _, _, _, _, _, _, _, _, _, _, _, _, _, _, _, _, _, _, _, _, _, _, _, _, _, _, _, _, _, _, _, _, _, _, _, _, _, _, _, _, _, _, _, _, _, _, _, _, _, _, _, _, _, _, _, _, _, _, _, _, _, _, _, _, _, _, _, _, _, _, _, _, _, _, _, _, _, _, _, _, _, _, _, _, _, _, _, _, _, _, _, _, _, _, _, _, _, _, _, _, _, _, _, _, _, _, _, _, _, _, _, _, _, _, _, _, _, _, _, _, _, _, _, _, _, _, _, _, _, _, _, _, _, _, _, _, _, _, _, _, _, _, _, _, _, _, _, _, _, _, _, _, _, _, _, _, _, _, _, _, _, _, _, _, _, _, _], []⟩ : Act) v
      refine wpOp_step rfl (fun K' hK' => ?_)
      go_simp
      refine (armSpan_any v0 eH v).mono ?_
      rintro e v' ⟨rfl, hg⟩
      exact hK' _ _ (hK _ _ hg (at_of rfl (rfl)))
    · show wpOp Try.prog _ _ 12 K (⟨#[_, _, _, _, _, x 39, _, _, _, _, _, _, _, _, _, _, _, _, _, _, x 0, x 1, x 2, x 3, x 4, x 5, x 6, x 7, x 8, x 9, x 10, x 11, x 12, x 13, x 14, x 15, x 16, x 17, x 18, x 19, x 20, x 21, x 22, x 23, x 24, x 25, x 26, x 27, x 28, x 29, x 30, x 31, x 32, x 33, x 34, x 35, x 36, x 37, x 38, _, _, _, _, _, _, _, _, _, _, _, _, _, _, _, _, _, _, _, _, _, _, _, _, _, _, _, _, _, _, _, _, _, _, _, _, _, _, _, _, _, _, _, _, _, _, _, _, _, _, _, _, _, _, _, _, _, _, _, _, _, _, _, _, _, _, _, _, _, _, _, _, _, _, _, _, _, _, _, _, _, _, _, _, _, _, _, _, _, _, _, _, _, _, _, _, _, _, _, _, _, _, _, _, _, _, _, _, _, _, _, _, _, _, _, _, _, _, _, _, _, _, _, _, _, _, _, _, _, _, _, _, _, _, _, _, _, _, _, _, _, _, _, _, _, _, _, _, _, _, _, _, _, _, _, _, _, _, _, _, _, _, _, _, _, _, _, _, _, _, _, _, _, _, _, _, _, _, _, _, _, _, _, _, _, _, _, _, _, _, _], []⟩ : Act) v
      refine wpOp_step rfl (fun K' hK' => ?_)
      go_simp
      exact hK' _ _ (hK _ _ (Below.refl _ _) (at_of rfl (rfl)))
    · obtain ⟨x, rfl⟩ := upd_of (show x 12 = .pointer (some ⟨w.heap.size, 2, none⟩) from hd 12 _ (by simp) rfl)
      show wpOp Try.prog _ _ 13 K (⟨#[_, _, _, _, _, x 39, _, _, _, _, _, _, _, _, _, _, _, _, _, _, x 0, x 1, x 2, x 3, x 4, x 5, x 6, x 7, x 8, x 9, x 10, x 11, .pointer (some ⟨w.heap.size, 2, none⟩), x 13, x 14, x 15, x 16, x 17, x 18, x 19, x 20, x 21, x 22, x 23, x 24, x 25, x 26, x 27, x 28, x 29, x 30, x 31, x 32, x 33, x 34, x 35, x 36, x 37, x 38, _, _, _, _, _, _, _, _, _, _, _, _, _, _, _, _, _, _, _, _, _, _, _, _, _, _, _, _, _, _, _, _, _, _, _, _, _, _, _, _, _, _, _, _, _, _, _, _, _, _, _, _, _, _, _, _, _, _, _, _, _, _, _, _, _, _, _, _, _, _, _, _, _, _, _, _, _, _, _, _, _, _, _, _, _, _, _, _, _, _, _, _, _, _, _, _, _, _, _, _, _, _, _, _, _, _, _, _, _, _, _, _, _, _, _, _, _, _, _, _, _, _, _, _, _, _, _, _, _, _, _, _, _, _, _, _, _, _, _, _, _, _, _, _, _, _, _, _, _, _, _, _, _, _, _, _, _, _, _, _, _, _, _, _, _, _, _, _, _, _, _, _, _, _, _, _, _, _, _, _, _, _, _, _, _, _, _, _, _, _, _], []⟩ : Act) v
      refine wpOp_step rfl (fun K' hK' => ?_)
      have q := gv.keep q2
      go_simp
      exact hK' _ _ (hK _ _ (Below.refl _ _) (at_of rfl (rfl)))
    · obtain ⟨x, rfl⟩ := upd_of (show x 13 = .int .u16 v2 from hd 13 _ (by simp) rfl)
      show wpOp Try.prog _ _ 14 K (⟨#[_, _, _, _, _, x 39, _, _, _, _, _, _, _, _, _, _, _, _, _, _, x 0, x 1, x 2, x 3, x 4, x 5, x 6, x 7, x 8, x 9, x 10, x 11, x 12, .int .u16 v2, x 14, x 15, x 16, x 17, x 18, x 19, x 20, x 21, x 22, x 23, x 24, x 25, x 26, x 27, x 28, x 29, x 30, x 31, x 32, x 33, x 34, x 35, x 36, x 37, x 38, _, _, _, _, _, _, _, _, _, _, _, _, _, _, _, _, _, _, _, _, _, _, _, _, _, _, _, _, _, _, _, _, _, _, _, _, _, _, _, _, _, _, _, _, _, _, _, _, _, _, _, _, _, _, _, _, _, _, _, _, _, _, _, _, _, _, _, _, _, _, _, _, _, _, _, _, _, _, _, _, _, _, _, _, _, _, _, _, _, _, _, _, _, _, _, _, _, _, _, _, _, _, _, _, _, _, _, _, _, _, _, _, _, _, _, _, _, _, _, _, _, _, _, _, _, _, _, _, _, _, _, _, _, _, _, _, _, _, _, _, _, _, _, _, _, _, _, _, _, _, _, _, _, _, _, _, _, _, _, _, _, _, _, _, _, _, _, _, _, _, _, _, _, _, _, _, _, _, _, _, _, _, _, _, _, _, _, _, _, _, _], []⟩ : Act) v
      refine wpOp_step rfl (fun K' hK' => ?_)
      go_simp
      exact hK' _ _ (hK _ _ (Below.refl _ _) (at_of rfl (rfl)))
    · obtain ⟨x, rfl⟩ := upd_of (show x 14 = .int .i64 v2 from hd 14 _ (by simp) rfl)
      show wpOp Try.prog _ _ 15 K (⟨#[_, _, _, _, _, x 39, _, _, _, _, _, _, _, _, _, _, _, _, _, _, x 0, x 1, x 2, x 3, x 4, x 5, x 6, x 7, x 8, x 9, x 10, x 11, x 12, x 13, .int .i64 v2, x 15, x 16, x 17, x 18, x 19, x 20, x 21, x 22, x 23, x 24, x 25, x 26, x 27, x 28, x 29, x 30, x 31, x 32, x 33, x 34, x 35, x 36, x 37, x 38, _, _, _, _, _, _, _, _, _, _, _, _, _, _, _, _, _, _, _, _, _, _, _, _, _, _, _, _, _, _, _, _, _, _, _, _, _, _, _, _, _, _, _, _, _, _, _, _, _, _, _, _, _, _, _, _, _, _, _, _, _, _, _, _, _, _, _, _, _, _, _, _, _, _, _, _, _, _, _, _, _, _, _, _, _, _, _, _, _, _, _, _, _, _, _, _, _, _, _, _, _, _, _, _, _, _, _, _, _, _, _, _, _, _, _, _, _, _, _, _, _, _, _, _, _, _, _, _, _, _, _, _, _, _, _, _, _, _, _, _, _, _, _, _, _, _, _, _, _, _, _, _, _, _, _, _, _, _, _, _, _, _, _, _, _, _, _, _, _, _, _, _, _, _, _, _, _, _, _, _, _, _, _, _, _, _, _, _, _, _, _], []⟩ : Act) v
      refine wpOp_step rfl (fun K' hK' => ?_)
      go_simp
      exact hK' _ _ (hK _ _ (Below.refl _ _) (at_of rfl (rfl)))
    · obtain ⟨x, rfl⟩ := upd_of (show x 15 = .int .i64 m2 from hd 15 _ (by simp) rfl)
      show wpOp Try.prog _ _ 16 K (⟨#[_, _, _, _, _, x 39, _, _, _, _, _, _, _, _, _, _, _, _, _, _, x 0, x 1, x 2, x 3, x 4, x 5, x 6, x 7, x 8, x 9, x 10, x 11, x 12, x 13, x 14, .int .i64 m2, x 16, x 17, x 18, x 19, x 20, x 21, x 22, x 23, x 24, x 25, x 26, x 27, x 28, x 29, x 30, x 31, x 32, x 33, x 34, x 35, x 36, x 37, x 38, _, _, _, _, _, _, _, _, _, _, _, _, _, _, _, _, _, _, _, _, _, _, _, _, _, _, _, _, _, _, _, _, _, _, _, _, _, _, _, _, _, _, _, _, _, _, _, _, _, _, _, _, _, _, _, _, _, _, _, _, _, _, _, _, _, _, _, _, _, _, _, _, _, _, _, _, _, _, _, _, _, _, _, _, _, _, _, _, _, _, _, _, _, _, _, _, _, _, _, _, _, _, _, _, _, _, _, _, _, _, _, _, _, _, _, _, _, _, _, _, _, _, _, _, _, _, _, _, _, _, _, _, _, _, _, _, _, _, _, _, _, _, _, _, _, _, _, _, _, _, _, _, _, _, _, _, _, _, _, _, _, _, _, _, _, _, _, _, _, _, _, _, _, _, _, _, _, _, _, _, _, _, _, _, _, _, _, _, _, _, _], []⟩ : Act) v
      refine wpOp_step rfl (fun K' hK' => ?_)
      go_simp
      exact hK' _ _ (hK _ _ (Below.refl _ _) (at_of rfl (rfl)))
    · show wpOp Try.prog _ _ 17 K (⟨#[_, _, _, _, _, x 39, _, _, _, _, _, _, _, _, _, _, _, _, _, _, x 0, x 1, x 2, x 3, x 4, x 5, x 6, x 7, x 8, x 9, x 10, x 11, x 12, x 13, x 14, x 15, x 16, x 17, x 18, x 19, x 20, x 21, x 22, x 23, x 24, x 25, x 26, x 27, x 28, x 29, x 30, x 31, x 32, x 33, x 34, x 35, x 36, x 37, x 38, _, _, _, _, _, _, _, _, _, _, _, _, _, _, _, _, _, _, _, _, _, _, _, _, _, _, _, _, _, _, _, _, _, _, _, _, _, _, _, _, _, _, _, _, _, _, _, _, _, _, _, _, _, _, _, _, _, _, _, _, _, _, _, _, _, _, _, _, _, _, _, _, _, _, _, _, _, _, _, _, _, _, _, _, _, _, _, _, _, _, _, _, _, _, _, _, _, _, _, _, _, _, _, _, _, _, _, _, _, _, _, _, _, _, _, _, _, _, _, _, _, _, _, _, _, _, _, _, _, _, _, _, _, _, _, _, _, _, _, _, _, _, _, _, _, _, _, _, _, _, _, _, _, _, _, _, _, _, _, _, _, _, _, _, _, _, _, _, _, _, _, _, _, _, _, _, _, _, _, _, _, _, _, _, _, _, _, _, _, _, _], []⟩ : Act) v
      refine wpOp_step rfl (fun K' hK' => ?_)
      go_simp
      exact hK' _ _ (hK _ _ (Below.refl _ _) (at_of rfl (rfl)))
    · obtain ⟨x, rfl⟩ := upd_of (show x 17 = .pointer (some ⟨w.heap.size, 2, none⟩) from hd 17 _ (by simp) rfl)
      show wpOp Try.prog _ _ 18 K (⟨#[_, _, _, _, _, x 39, _, _, _, _, _, _, _, _, _, _, _, _, _, _, x 0, x 1, x 2, x 3, x 4, x 5, x 6, x 7, x 8, x 9, x 10, x 11, x 12, x 13, x 14, x 15, x 16, .pointer (some ⟨w.heap.size, 2, none⟩), x 18, x 19, x 20, x 21, x 22, x 23, x 24, x 25, x 26, x 27, x 28, x 29, x 30, x 31, x 32, x 33, x 34, x 35, x 36, x 37, x 38, _, _, _, _, _, _, _, _, _, _, _, _, _, _, _, _, _, _, _, _, _, _, _, _, _, _, _, _, _, _, _, _, _, _, _, _, _, _, _, _, _, _, _, _, _, _, _, _, _, _, _, _, _, _, _, _, _, _, _, _, _, _, _, _, _, _, _, _, _, _, _, _, _, _, _, _, _, _, _, _, _, _, _, _, _, _, _, _, _, _, _, _, _, _, _, _, _, _, _, _, _, _, _, _, _, _, _, _, _, _, _, _, _, _, _, _, _, _, _, _, _, _, _, _, _, _, _, _, _, _, _, _, _, _, _, _, _, _, _, _, _, _, _, _, _, _, _, _, _, _, _, _, _, _, _, _, _, _, _, _, _, _, _, _, _, _, _, _, _, _, _, _, _, _, _, _, _, _, _, _, _, _, _, _, _, _, _, _, _, _, _], []⟩ : Act) v
      refine wpOp_step rfl (fun K' hK' => ?_)
      have q := gv.keep q2
      go_simp
      exact hK' _ _ (hK _ _ (Below.refl _ _) (at_of rfl (rfl)))
    · obtain ⟨x, rfl⟩ := upd_of (show x 18 = .int .u16 v2 from hd 18 _ (by simp) rfl)
      show wpOp Try.prog _ _ 19 K (⟨#[_, _, _, _, _, x 39, _, _, _, _, _, _, _, _, _, _, _, _, _, _, x 0, x 1, x 2, x 3, x 4, x 5, x 6, x 7, x 8, x 9, x 10, x 11, x 12, x 13, x 14, x 15, x 16, x 17, .int .u16 v2, x 19, x 20, x 21, x 22, x 23, x 24, x 25, x 26, x 27, x 28, x 29, x 30, x 31, x 32, x 33, x 34, x 35, x 36, x 37, x 38, _, _, _, _, _, _, _, _, _, _, _, _, _, _, _, _, _, _, _, _, _, _, _, _, _, _, _, _, _, _, _, _, _, _, _, _, _, _, _, _, _, _, _, _, _, _, _, _, _, _, _, _, _, _, _, _, _, _, _, _, _, _, _, _, _, _, _, _, _, _, _, _, _, _, _, _, _, _, _, _, _, _, _, _, _, _, _, _, _, _, _, _, _, _, _, _, _, _, _, _, _, _, _, _, _, _, _, _, _, _, _, _, _, _, _, _, _, _, _, _, _, _, _, _, _, _, _, _, _, _, _, _, _, _, _, _, _, _, _, _, _, _, _, _, _, _, _, _, _, _, _, _, _, _, _, _, _, _, _, _, _, _, _, _, _, _, _, _, _, _, _, _, _, _, _, _, _, _, _, _, _, _, _, _, _, _, _, _, _, _, _], []⟩ : Act) v
      refine wpOp_step rfl (fun K' hK' => ?_)
      go_simp
      exact hK' _ _ (hK _ _ (Below.refl _ _) (at_of rfl (rfl)))
    · obtain ⟨x, rfl⟩ := upd_of (show x 19 = .int .i64 v2 from hd 19 _ (by simp) rfl)
      show wpOp Try.prog _ _ 20 K (⟨#[_, _, _, _, _, x 39, _, _, _, _, _, _, _, _, _, _, _, _, _, _, x 0, x 1, x 2, x 3, x 4, x 5, x 6, x 7, x 8, x 9, x 10, x 11, x 12, x 13, x 14, x 15, x 16, x 17, x 18, .int .i64 v2, x 20, x 21, x 22, x 23, x 24, x 25, x 26, x 27, x 28, x 29, x 30, x 31, x 32, x 33, x 34, x 35, x 36, x 37, x 38, _, _, _, _, _, _, _, _, _, _, _, _, _, _, _, _, _, _, _, _, _, _, _, _, _, _, _, _, _, _, _, _, _, _, _, _, _, _, _, _, _, _, _, _, _, _, _, _, _, _, _, _, _, _, _, _, _, _, _, _, _, _, _, _, _, _, _, _, _, _, _, _, _, _, _, _, _, _, _, _, _, _, _, _, _, _, _, _, _, _, _, _, _, _, _, _, _, _, _, _, _, _, _, _, _, _, _, _, _, _, _, _, _, _, _, _, _, _, _, _, _, _, _, _, _, _, _, _, _, _, _, _, _, _, _, _, _, _, _, _, _, _, _, _, _, _, _, _, _, _, _, _, _, _, _, _, _, _, _, _, _, _, _, _, _, _, _, _, _, _, _, _, _, _, _, _, _, _, _, _, _, _, _, _, _, _, _, _, _, _, _], []⟩ : Act) v
      refine wpOp_step rfl (fun K' hK' => ?_)
      go_simp
      exact hK' _ _ (hK _ _ (Below.refl _ _) (at_of rfl (rfl)))
    · obtain ⟨x, rfl⟩ := upd_of (show x 20 = .int .i64 m2 from hd 20 _ (by simp) rfl)
      show wpOp Try.prog _ _ 21 K (⟨#[_, _, _, _, _, x 39, _, _, _, _, _, _, _, _, _, _, _, _, _, _, x 0, x 1, x 2, x 3, x 4, x 5, x 6, x 7, x 8, x 9, x 10, x 11, x 12, x 13, x 14, x 15, x 16, x 17, x 18, x 19, .int .i64 m2, x 21, x 22, x 23, x 24, x 25, x 26, x 27, x 28, x 29, x 30, x 31, x 32, x 33, x 34, x 35, x 36, x 37, x 38, _, _, _, _, _, _, _, _, _, _, _, _, _, _, _, _, _, _, _, _, _, _, _, _, _, _, _, _, _, _, _, _, _, _, _, _, _, _, _, _, _, _, _, _, _, _, _, _, _, _, _, _, _, _, _, _, _, _, _, _, _, _, _, _, _, _, _, _, _, _, _, _, _, _, _, _, _, _, _, _, _, _, _, _, _, _, _, _, _, _, _, _, _, _, _, _, _, _, _, _, _, _, _, _, _, _, _, _, _, _, _, _, _, _, _, _, _, _, _, _, _, _, _, _, _, _, _, _, _, _, _, _, _, _, _, _, _, _, _, _, _, _, _, _, _, _, _, _, _, _, _, _, _, _, _, _, _, _, _, _, _, _, _, _, _, _, _, _, _, _, _, _, _, _, _, _, _, _, _, _, _, _, _, _, _, _, _, _, _, _, _], []⟩ : Act) v
      refine wpOp_step rfl (fun K' hK' => ?_)
      go_simp
      exact hK' _ _ (hK _ _ (Below.refl _ _) (at_of rfl (rfl)))
    · show wpOp Try.prog _ _ 22 K (⟨#[_, _, _, _, _, x 39, _, _, _, _, _, _, _, _, _, _, _, _, _, _, x 0, x 1, x 2, x 3, x 4, x 5, x 6, x 7, x 8, x 9, x 10, x 11, x 12, x 13, x 14, x 15, x 16, x 17, x 18, x 19, x 20, x 21, x 22, x 23, x 24, x 25, x 26, x 27, x 28, x 29, x 30, x 31, x 32, x 33, x 34, x 35, x 36, x 37, x 38, _, _, _, _, _, _, _, _, _, _, _, _, _, _, _, _, _, _, _, _, _, _, _, _, _, _, _, _, _, _, _, _, _, _, _, _, _, _, _, _, _, _, _, _, _, _, _, _, _, _, _, _, _, _, _, _, _, _, _, _, _, _, _, _, _, _, _, _, _, _, _, _, _, _, _, _, _, _, _, _, _, _, _, _, _, _, _, _, _, _, _, _, _, _, _, _, _, _, _, _, _, _, _, _, _, _, _, _, _, _, _, _, _, _, _, _, _, _, _, _, _, _, _, _, _, _, _, _, _, _, _, _, _, _, _, _, _, _, _, _, _, _, _, _, _, _, _, _, _, _, _, _, _, _, _, _, _, _, _, _, _, _, _, _, _, _, _, _, _, _, _, _, _, _, _, _, _, _, _, _, _, _, _, _, _, _, _, _, _, _, _], []⟩ : Act) v
      refine wpOp_step rfl (fun K' hK' => ?_)
      go_simp
      exact hK' _ _ (hK _ _ (Below.refl _ _) (at_of rfl (rfl)))
    · obtain ⟨x, rfl⟩ := upd_of (show x 22 = .pointer (some ⟨w.heap.size, 3, none⟩) from hd 22 _ (by simp) rfl)
      show wpOp Try.prog _ _ 23 K (⟨#[_, _, _, _, _, x 39, _, _, _, _, _, _, _, _, _, _, _, _, _, _, x 0, x 1, x 2, x 3, x 4, x 5, x 6, x 7, x 8, x 9, x 10, x 11, x 12, x 13, x 14, x 15, x 16, x 17, x 18, x 19, x 20, x 21, .pointer (some ⟨w.heap.size, 3, none⟩), x 23, x 24, x 25, x 26, x 27, x 28, x 29, x 30, x 31, x 32, x 33, x 34, x 35, x 36, x 37, x 38, _, _, _, _, _, _, _, _, _, _, _, _, _, _, _, _, _, _, _, _, _, _, _, _, _, _, _, _, _, _, _, _, _, _, _, _, _, _, _, _, _, _, _, _, _, _, _, _, _, _, _, _, _, _, _, _, _, _, _, _, _, _, _, _, _, _, _, _, _, _, _, _, _, _, _, _, _, _, _, _, _, _, _, _, _, _, _, _, _, _, _, _, _, _, _, _, _, _, _, _, _, _, _, _, _, _, _, _, _, _, _, _, _, _, _, _, _, _, _, _, _, _, _, _, _, _, _, _, _, _, _, _, _, _, _, _, _, _, _, _, _, _, _, _, _, _, _, _, _, _, _, _, _, _, _, _, _, _, _, _, _, _, _, _, _, _, _, _, _, _, _, _, _, _, _, _, _, _, _, _, _, _, _, _, _, _, _, _, _, _, _], []⟩ : Act) v
      refine wpOp_step rfl (fun K' hK' => ?_)
      have q := gv.keep q3
      go_simp
      exact hK' _ _ (hK _ _ (Below.refl _ _) (at_of rfl (rfl)))
    · obtain ⟨x, rfl⟩ := upd_of (show x 23 = .int .u16 v3 from hd 23 _ (by simp) rfl)
      show wpOp Try.prog _ _ 24 K (⟨#[_, _, _, _, _, x 39, _, _, _, _, _, _, _, _, _, _, _, _, _, _, x 0, x 1, x 2, x 3, x 4, x 5, x 6, x 7, x 8, x 9, x 10, x 11, x 12, x 13, x 14, x 15, x 16, x 17, x 18, x 19, x 20, x 21, x 22, .int .u16 v3, x 24, x 25, x 26, x 27, x 28, x 29, x 30, x 31, x 32, x 33, x 34, x 35, x 36, x 37, x 38, _, _, _, _, _, _, _, _, _, _, _, _, _, _, _, _, _, _, _, _, _, _, _, _, _, _, _, _, _, _, _, _, _, _, _, _, _, _, _, _, _, _, _, _, _, _, _, _, _, _, _, _, _, _, _, _, _, _, _, _, _, _, _, _, _, _, _, _, _, _, _, _, _, _, _, _, _, _, _, _, _, _, _, _, _, _, _, _, _, _, _, _, _, _, _, _, _, _, _, _, _, _, _, _, _, _, _, _, _, _, _, _, _, _, _, _, _, _, _, _, _, _, _, _, _, _, _, _, _, _, _, _, _, _, _, _, _, _, _, _, _, _, _, _, _, _, _, _, _, _, _, _, _, _, _, _, _, _, _, _, _, _, _, _, _, _, _, _, _, _, _, _, _, _, _, _, _, _, _, _, _, _, _, _, _, _, _, _, _, _, _], []⟩ : Act) v
      refine wpOp_step rfl (fun K' hK' => ?_)
      go_simp
      exact hK' _ _ (hK _ _ (Below.refl _ _) (at_of rfl (rfl)))
    · obtain ⟨x, rfl⟩ := upd_of (show x 24 = .int .i64 v3 from hd 24 _ (by simp) rfl)
      show wpOp Try.prog _ _ 25 K (⟨#[_, _, _, _, _, x 39, _, _, _, _, _, _, _, _, _, _, _, _, _, _, x 0, x 1, x 2, x 3, x 4, x 5, x 6, x 7, x 8, x 9, x 10, x 11, x 12, x 13, x 14, x 15, x 16, x 17, x 18, x 19, x 20, x 21, x 22, x 23, .int .i64 v3, x 25, x 26, x 27, x 28, x 29, x 30, x 31, x 32, x 33, x 34, x 35, x 36, x 37, x 38, _, _, _, _, _, _, _, _, _, _, _, _, _, _, _, _, _, _, _, _, _, _, _, _, _, _, _, _, _, _, _, _, _, _, _, _, _, _, _, _, _, _, _, _, _, _, _, _, _, _, _, _, _, _, _, _, _, _, _, _, _, _, _, _, _, _, _, _, _, _, _, _, _, _, _, _, _, _, _, _, _, _, _, _, _, _, _, _, _, _, _, _, _, _, _, _, _, _, _, _, _, _, _, _, _, _, _, _, _, _, _, _, _, _, _, _, _, _, _, _, _, _, _, _, _, _, _, _, _, _, _, _, _, _, _, _, _, _, _, _, _, _, _, _, _, _, _, _, _, _, _, _, _, _, _, _, _, _, _, _, _, _, _, _, _, _, _, _, _, _, _, _, _, _, _, _, _, _, _, _, _, _, _, _, _, _, _, _, _, _, _], []⟩ : Act) v
      refine wpOp_step rfl (fun K' hK' => ?_)
      go_simp
      exact hK' _ _ (hK _ _ (Below.refl _ _) (at_of rfl (rfl)))
    · obtain ⟨x, rfl⟩ := upd_of (show x 21 = .int .i64 cL from hd 21 _ (by simp) rfl)
      obtain ⟨x, rfl⟩ := upd_of (show x 25 = .int .i64 m3 from hd 25 _ (by simp) rfl)
      show wpOp Try.prog _ _ 26 K (⟨#[_, _, _, _, _, x 39, _, _, _, _, _, _, _, _, _, _, _, _, _, _, x 0, x 1, x 2, x 3, x 4, x 5, x 6, x 7, x 8, x 9, x 10, x 11, x 12, x 13, x 14, x 15, x 16, x 17, x 18, x 19, x 20, .int .i64 cL, x 22, x 23, x 24, .int .i64 m3, x 26, x 27, x 28, x 29, x 30, x 31, x 32, x 33, x 34, x 35, x 36, x 37, x 38, _, _, _, _, _, _, _, _, _, _, _, _, _, _, _, _, _, _, _, _, _, _, _, _, _, _, _, _, _, _, _, _, _, _, _, _, _, _, _, _, _, _, _, _, _, _, _, _, _, _, _, _, _, _, _, _, _, _, _, _, _, _, _, _, _, _, _, _, _, _, _, _, _, _, _, _, _, _, _, _, _, _, _, _, _, _, _, _, _, _, _, _, _, _, _, _, _, _, _, _, _, _, _, _, _, _, _, _, _, _, _, _, _, _, _, _, _, _, _, _, _, _, _, _, _, _, _, _, _, _, _, _, _, _, _, _, _, _, _, _, _, _, _, _, _, _, _, _, _, _, _, _, _, _, _, _, _, _, _, _, _, _, _, _, _, _, _, _, _, _, _, _, _, _, _, _, _, _, _, _, _, _, _, _, _, _, _, _, _, _, _], []⟩ : Act) v
      refine wpOp_step rfl (fun K' hK' => ?_)
      go_simp
      exact hK' _ _ (hK _ _ (Below.refl _ _) (at_of rfl (rfl)))
    · obtain ⟨x, rfl⟩ := upd_of (show x 16 = .int .i64 cL from hd 16 _ (by simp) rfl)
      obtain ⟨x, rfl⟩ := upd_of (show x 26 = .int .i64 cH from hd 26 _ (by simp) rfl)
      show wpOp Try.prog _ _ 27 K (⟨#[_, _, _, _, _, x 39, _, _, _, _, _, _, _, _, _, _, _, _, _, _, x 0, x 1, x 2, x 3, x 4, x 5, x 6, x 7, x 8, x 9, x 10, x 11, x 12, x 13, x 14, x 15, .int .i64 cL, x 17, x 18, x 19, x 20, x 21, x 22, x 23, x 24, x 25, .int .i64 cH, x 27, x 28, x 29, x 30, x 31, x 32, x 33, x 34, x 35, x 36, x 37, x 38, _, _, _, _, _, _, _, _, _, _, _, _, _, _, _, _, _, _, _, _, _, _, _, _, _, _, _, _, _, _, _, _, _, _, _, _, _, _, _, _, _, _, _, _, _, _, _, _, _, _, _, _, _, _, _, _, _, _, _, _, _, _, _, _, _, _, _, _, _, _, _, _, _, _, _, _, _, _, _, _, _, _, _, _, _, _, _, _, _, _, _, _, _, _, _, _, _, _, _, _, _, _, _, _, _, _, _, _, _, _, _, _, _, _, _, _, _, _, _, _, _, _, _, _, _, _, _, _, _, _, _, _, _, _, _, _, _, _, _, _, _, _, _, _, _, _, _, _, _, _, _, _, _, _, _, _, _, _, _, _, _, _, _, _, _, _, _, _, _, _, _, _, _, _, _, _, _, _, _, _, _, _, _, _, _, _, _, _, _, _, _], []⟩ : Act) v
      refine wpOp_step rfl (fun K' hK' => ?_)
      go_simp
      refine (armSpan_any cL cH v).mono ?_
      rintro e v' ⟨rfl, hg⟩
      exact hK' _ _ (hK _ _ hg (at_of rfl (rfl)))
    · show wpOp Try.prog _ _ 28 K (⟨#[_, _, _, _, _, x 39, _, _, _, _, _, _, _, _, _, _, _, _, _, _, x 0, x 1, x 2, x 3, x 4, x 5, x 6, x 7, x 8, x 9, x 10, x 11, x 12, x 13, x 14, x 15, x 16, x 17, x 18, x 19, x 20, x 21, x 22, x 23, x 24, x 25, x 26, x 27, x 28, x 29, x 30, x 31, x 32, x 33, x 34, x 35, x 36, x 37, x 38, _, _, _, _, _, _, _, _, _, _, _, _, _, _, _, _, _, _, _, _, _, _, _, _, _, _, _, _, _, _, _, _, _, _, _, _, _, _, _, _, _, _, _, _, _, _, _, _, _, _, _, _, _, _, _, _, _, _, _, _, _, _, _, _, _, _, _, _, _, _, _, _, _, _, _, _, _, _, _, _, _, _, _, _, _, _, _, _, _, _, _, _, _, _, _, _, _, _, _, _, _, _, _, _, _, _, _, _, _, _, _, _, _, _, _, _, _, _, _, _, _, _, _, _, _, _, _, _, _, _, _, _, _, _, _, _, _, _, _, _, _, _, _, _, _, _, _, _, _, _, _, _, _, _, _, _, _, _, _, _, _, _, _, _, _, _, _, _, _, _, _, _, _, _, _, _, _, _, _, _, _, _, _, _, _, _, _, _, _, _, _], []⟩ : Act) v
      refine wpOp_step rfl (fun K' hK' => ?_)
      go_simp
      exact hK' _ _ (hK _ _ (Below.refl _ _) (at_of rfl (rfl)))
    · obtain ⟨x, rfl⟩ := upd_of (show x 28 = .pointer (some ⟨w.heap.size, 4, none⟩) from hd 28 _ (by simp) rfl)
      show wpOp Try.prog _ _ 29 K (⟨#[_, _, _, _, _, x 39, _, _, _, _, _, _, _, _, _, _, _, _, _, _, x 0, x 1, x 2, x 3, x 4, x 5, x 6, x 7, x 8, x 9, x 10, x 11, x 12, x 13, x 14, x 15, x 16, x 17, x 18, x 19, x 20, x 21, x 22, x 23, x 24, x 25, x 26, x 27, .pointer (some ⟨w.heap.size, 4, none⟩), x 29, x 30, x 31, x 32, x 33, x 34, x 35, x 36, x 37, x 38, _, _, _, _, _, _, _, _, _, _, _, _, _, _, _, _, _, _, _, _, _, _, _, _, _, _, _, _, _, _, _, _, _, _, _, _, _, _, _, _, _, _, _, _, _, _, _, _, _, _, _, _, _, _, _, _, _, _, _, _, _, _, _, _, _, _, _, _, _, _, _, _, _, _, _, _, _, _, _, _, _, _, _, _, _, _, _, _, _, _, _, _, _, _, _, _, _, _, _, _, _, _, _, _, _, _, _, _, _, _, _, _, _, _, _, _, _, _, _, _, _, _, _, _, _, _, _, _, _, _, _, _, _, _, _, _, _, _, _, _, _, _, _, _, _, _, _, _, _, _, _, _, _, _, _, _, _, _, _, _, _, _, _, _, _, _, _, _, _, _, _, _, _, _, _, _, _, _, _, _, _, _, _, _, _, _, _, _, _, _, _], []⟩ : Act) v
      refine wpOp_step rfl (fun K' hK' => ?_)
      have q := gv.keep q4
      go_simp
      exact hK' _ _ (hK _ _ (Below.refl _ _) (at_of rfl (rfl)))
    · obtain ⟨x, rfl⟩ := upd_of (show x 29 = .int .u16 v4 from hd 29 _ (by simp) rfl)
      show wpOp Try.prog _ _ 30 K (⟨#[_, _, _, _, _, x 39, _, _, _, _, _, _, _, _, _, _, _, _, _, _, x 0, x 1, x 2, x 3, x 4, x 5, x 6, x 7, x 8, x 9, x 10, x 11, x 12, x 13, x 14, x 15, x 16, x 17, x 18, x 19, x 20, x 21, x 22, x 23, x 24, x 25, x 26, x 27, x 28, .int .u16 v4, x 30, x 31, x 32, x 33, x 34, x 35, x 36, x 37, x 38, _, _, _, _, _, _, _, _, _, _, _, _, _, _, _, _, _, _, _, _, _, _, _, _, _, _, _, _, _, _, _, _, _, _, _, _, _, _, _, _, _, _, _, _, _, _, _, _, _, _, _, _, _, _, _, _, _, _, _, _, _, _, _, _, _, _, _, _, _, _, _, _, _, _, _, _, _, _, _, _, _, _, _, _, _, _, _, _, _, _, _, _, _, _, _, _, _, _, _, _, _, _, _, _, _, _, _, _, _, _, _, _, _, _, _, _, _, _, _, _, _, _, _, _, _, _, _, _, _, _, _, _, _, _, _, _, _, _, _, _, _, _, _, _, _, _, _, _, _, _, _, _, _, _, _, _, _, _, _, _, _, _, _, _, _, _, _, _, _, _, _, _, _, _, _, _, _, _, _, _, _, _, _, _, _, _, _, _, _, _, _], []⟩ : Act) v
      refine wpOp_step rfl (fun K' hK' => ?_)
      go_simp
      exact hK' _ _ (hK _ _ (Below.refl _ _) (at_of rfl (rfl)))
    · obtain ⟨x, rfl⟩ := upd_of (show x 30 = .int .i64 v4 from hd 30 _ (by simp) rfl)
      show wpOp Try.prog _ _ 31 K (⟨#[_, _, _, _, _, x 39, _, _, _, _, _, _, _, _, _, _, _, _, _, _, x 0, x 1, x 2, x 3, x 4, x 5, x 6, x 7, x 8, x 9, x 10, x 11, x 12, x 13, x 14, x 15, x 16, x 17, x 18, x 19, x 20, x 21, x 22, x 23, x 24, x 25, x 26, x 27, x 28, x 29, .int .i64 v4, x 31, x 32, x 33, x 34, x 35, x 36, x 37, x 38, _, _, _, _, _, _, _, _, _, _, _, _, _, _, _, _, _, _, _, _, _, _, _, _, _, _, _, _, _, _, _, _, _, _, _, _, _, _, _, _, _, _, _, _, _, _, _, _, _, _, _, _, _, _, _, _, _, _, _, _, _, _, _, _, _, _, _, _, _, _, _, _, _, _, _, _, _, _, _, _, _, _, _, _, _, _, _, _, _, _, _, _, _, _, _, _, _, _, _, _, _, _, _, _, _, _, _, _, _, _, _, _, _, _, _, _, _, _, _, _, _, _, _, _, _, _, _, _, _, _, _, _, _, _, _, _, _, _, _, _, _, _, _, _, _, _, _, _, _, _, _, _, _, _, _, _, _, _, _, _, _, _, _, _, _, _, _, _, _, _, _, _, _, _, _, _, _, _, _, _, _, _, _, _, _, _, _, _, _, _, _], []⟩ : Act) v
      refine wpOp_step rfl (fun K' hK' => ?_)
      go_simp
      exact hK' _ _ (hK _ _ (Below.refl _ _) (at_of rfl (rfl)))
    · obtain ⟨x, rfl⟩ := upd_of (show x 31 = .int .i64 m4 from hd 31 _ (by simp) rfl)
      show wpOp Try.prog _ _ 32 K (⟨#[_, _, _, _, _, x 39, _, _, _, _, _, _, _, _, _, _, _, _, _, _, x 0, x 1, x 2, x 3, x 4, x 5, x 6, x 7, x 8, x 9, x 10, x 11, x 12, x 13, x 14, x 15, x 16, x 17, x 18, x 19, x 20, x 21, x 22, x 23, x 24, x 25, x 26, x 27, x 28, x 29, x 30, .int .i64 m4, x 32, x 33, x 34, x 35, x 36, x 37, x 38, _, _, _, _, _, _, _, _, _, _, _, _, _, _, _, _, _, _, _, _, _, _, _, _, _, _, _, _, _, _, _, _, _, _, _, _, _, _, _, _, _, _, _, _, _, _, _, _, _, _, _, _, _, _, _, _, _, _, _, _, _, _, _, _, _, _, _, _, _, _, _, _, _, _, _, _, _, _, _, _, _, _, _, _, _, _, _, _, _, _, _, _, _, _, _, _, _, _, _, _, _, _, _, _, _, _, _, _, _, _, _, _, _, _, _, _, _, _, _, _, _, _, _, _, _, _, _, _, _, _, _, _, _, _, _, _, _, _, _, _, _, _, _, _, _, _, _, _, _, _, _, _, _, _, _, _, _, _, _, _, _, _, _, _, _, _, _, _, _, _, _, _, _, _, _, _, _, _, _, _, _, _, _, _, _, _, _, _, _, _, _], []⟩ : Act) v
      refine wpOp_step rfl (fun K' hK' => ?_)
      go_simp
      exact hK' _ _ (hK _ _ (Below.refl _ _) (at_of rfl (rfl)))
    · show wpOp Try.prog _ _ 33 K (⟨#[_, _, _, _, _, x 39, _, _, _, _, _, _, _, _, _, _, _, _, _, _, x 0, x 1, x 2, x 3, x 4, x 5, x 6, x 7, x 8, x 9, x 10, x 11, x 12, x 13, x 14, x 15, x 16, x 17, x 18, x 19, x 20, x 21, x 22, x 23, x 24, x 25, x 26, x 27, x 28, x 29, x 30, x 31, x 32, x 33, x 34, x 35, x 36, x 37, x 38, _, _, _, _, _, _, _, _, _, _, _, _, _, _, _, _, _, _, _, _, _, _, _, _, _, _, _, _, _, _, _, _, _, _, _, _, _, _, _, _, _, _, _, _, _, _, _, _, _, _, _, _, _, _, _, _, _, _, _, _, _, _, _, _, _, _, _, _, _, _, _, _, _, _, _, _, _, _, _, _, _, _, _, _, _, _, _, _, _, _, _, _, _, _, _, _, _, _, _, _, _, _, _, _, _, _, _, _, _, _, _, _, _, _, _, _, _, _, _, _, _, _, _, _, _, _, _, _, _, _, _, _, _, _, _, _, _, _, _, _, _, _, _, _, _, _, _, _, _, _, _, _, _, _, _, _, _, _, _, _, _, _, _, _, _, _, _, _, _, _, _, _, _, _, _, _, _, _, _, _, _, _, _, _, _, _, _, _, _, _, _], []⟩ : Act) v
      refine wpOp_step rfl (fun K' hK' => ?_)
      go_simp
      exact hK' _ _ (hK _ _ (Below.refl _ _) (at_of rfl (rfl)))
    · obtain ⟨x, rfl⟩ := upd_of (show x 33 = .pointer (some ⟨w.heap.size, 5, none⟩) from hd 33 _ (by simp) rfl)
      show wpOp Try.prog _ _ 34 K (⟨#[_, _, _, _, _, x 39, _, _, _, _, _, _, _, _, _, _, _, _, _, _, x 0, x 1, x 2, x 3, x 4, x 5, x 6, x 7, x 8, x 9, x 10, x 11, x 12, x 13, x 14, x 15, x 16, x 17, x 18, x 19, x 20, x 21, x 22, x 23, x 24, x 25, x 26, x 27, x 28, x 29, x 30, x 31, x 32, .pointer (some ⟨w.heap.size, 5, none⟩), x 34, x 35, x 36, x 37, x 38, _, _, _, _, _, _, _, _, _, _, _, _, _, _, _, _, _, _, _, _, _, _, _, _, _, _, _, _, _, _, _, _, _, _, _, _, _, _, _, _, _, _, _, _, _, _, _, _, _, _, _, _, _, _, _, _, _, _, _, _, _, _, _, _, _, _, _, _, _, _, _, _, _, _, _, _, _, _, _, _, _, _, _, _, _, _, _, _, _, _, _, _, _, _, _, _, _, _, _, _, _, _, _, _, _, _, _, _, _, _, _, _, _, _, _, _, _, _, _, _, _, _, _, _, _, _, _, _, _, _, _, _, _, _, _, _, _, _, _, _, _, _, _, _, _, _, _, _, _, _, _, _, _, _, _, _, _, _, _, _, _, _, _, _, _, _, _, _, _, _, _, _, _, _, _, _, _, _, _, _, _, _, _, _, _, _, _, _, _, _, _], []⟩ : Act) v
      refine wpOp_step rfl (fun K' hK' => ?_)
      have q := gv.keep q5
      go_simp
      exact hK' _ _ (hK _ _ (Below.refl _ _) (at_of rfl (rfl)))
    · obtain ⟨x, rfl⟩ := upd_of (show x 34 = .int .u16 v5 from hd 34 _ (by simp) rfl)
      show wpOp Try.prog _ _ 35 K (⟨#[_, _, _, _, _, x 39, _, _, _, _, _, _, _, _, _, _, _, _, _, _, x 0, x 1, x 2, x 3, x 4, x 5, x 6, x 7, x 8, x 9, x 10, x 11, x 12, x 13, x 14, x 15, x 16, x 17, x 18, x 19, x 20, x 21, x 22, x 23, x 24, x 25, x 26, x 27, x 28, x 29, x 30, x 31, x 32, x 33, .int .u16 v5, x 35, x 36, x 37, x 38, _, _, _, _, _, _, _, _, _, _, _, _, _, _, _, _, _, _, _, _, _, _, _, _, _, _, _, _, _, _, _, _, _, _, _, _, _, _, _, _, _, _, _, _, _, _, _, _, _, _, _, _, _, _, _, _, _, _, _, _, _, _, _, _, _, _, _, _, _, _, _, _, _, _, _, _, _, _, _, _, _, _, _, _, _, _, _, _, _, _, _, _, _, _, _, _, _, _, _, _, _, _, _, _, _, _, _, _, _, _, _, _, _, _, _, _, _, _, _, _, _, _, _, _, _, _, _, _, _, _, _, _, _, _, _, _, _, _, _, _, _, _, _, _, _, _, _, _, _, _, _, _, _, _, _, _, _, _, _, _, _, _, _, _, _, _, _, _, _, _, _, _, _, _, _, _, _, _, _, _, _, _, _, _, _, _, _, _, _, _, _], []⟩ : Act) v
      refine wpOp_step rfl (fun K' hK' => ?_)
      go_simp
      exact hK' _ _ (hK _ _ (Below.refl _ _) (at_of rfl (rfl)))
    · obtain ⟨x, rfl⟩ := upd_of (show x 35 = .int .i64 v5 from hd 35 _ (by simp) rfl)
      show wpOp Try.prog _ _ 36 K (⟨#[_, _, _, _, _, x 39, _, _, _, _, _, _, _, _, _, _, _, _, _, _, x 0, x 1, x 2, x 3, x 4, x 5, x 6, x 7, x 8, x 9, x 10, x 11, x 12, x 13, x 14, x 15, x 16, x 17, x 18, x 19, x 20, x 21, x 22, x 23, x 24, x 25, x 26, x 27, x 28, x 29, x 30, x 31, x 32, x 33, x 34, .int .i64 v5, x 36, x 37, x 38, _, _, _, _, _, _, _, _, _, _, _, _, _, _, _, _, _, _, _, _, _, _, _, _, _, _, _, _, _, _, _, _, _, _, _, _, _, _, _, _, _, _, _, _, _, _, _, _, _, _, _, _, _, _, _, _, _, _, _, _, _, _, _, _, _, _, _, _, _, _, _, _, _, _, _, _, _, _, _, _, _, _, _, _, _, _, _, _, _, _, _, _, _, _, _, _, _, _, _, _, _, _, _, _, _, _, _, _, _, _, _, _, _, _, _, _, _, _, _, _, _, _, _, _, _, _, _, _, _, _, _, _, _, _, _, _, _, _, _, _, _, _, _, _, _, _, _, _, _, _, _, _, _, _, _, _, _, _, _, _, _, _, _, _, _, _, _, _, _, _, _, _, _, _, _, _, _, _, _, _, _, _, _, _, _, _, _, _, _, _, _], []⟩ : Act) v
      refine wpOp_step rfl (fun K' hK' => ?_)
      go_simp
      exact hK' _ _ (hK _ _ (Below.refl _ _) (at_of rfl (rfl)))
    · obtain ⟨x, rfl⟩ := upd_of (show x 36 = .int .i64 m5 from hd 36 _ (by simp) rfl)
      show wpOp Try.prog _ _ 37 K (⟨#[_, _, _, _, _, x 39, _, _, _, _, _, _, _, _, _, _, _, _, _, _, x 0, x 1, x 2, x 3, x 4, x 5, x 6, x 7, x 8, x 9, x 10, x 11, x 12, x 13, x 14, x 15, x 16, x 17, x 18, x 19, x 20, x 21, x 22, x 23, x 24, x 25, x 26, x 27, x 28, x 29, x 30, x 31, x 32, x 33, x 34, x 35, .int .i64 m5, x 37, x 38, _, _, _, _, _, _, _, _, _, _, _, _, _, _, _, _, _, _, _, _, _, _, _, _, _, _, _, _, _, _, _, _, _, _, _, _, _, _, _, _, _, _, _, _, _, _, _, _, _, _, _, _, _, _, _, _, _, _, _, _, _, _, _, _, _, _, _, _, _, _, _, _, _, _, _, _, _, _, _, _, _, _, _, _, _, _, _, _, _, _, _, _, _, _, _, _, _, _, _, _, _, _, _, _, _, _, _, _, _, _, _, _, _, _, _, _, _, _, _, _, _, _, _, _, _, _, _, _, _, _, _, _, _, _, _, _, _, _, _, _, _, _, _, _, _, _, _, _, _, _, _, _, _, _, _, _, _, _, _, _, _, _, _, _, _, _, _, _, _, _, _, _, _, _, _, _, _, _, _, _, _, _, _, _, _, _, _, _, _, _, _], []⟩ : Act) v
      refine wpOp_step rfl (fun K' hK' => ?_)
      go_simp
      exact hK' _ _ (hK _ _ (Below.refl _ _) (at_of rfl (rfl)))
    · obtain ⟨x, rfl⟩ := upd_of (show x 11 = .agg #[.int .i64 v0, .int .i64 eH] from hd 11 _ (by simp) rfl)
      obtain ⟨x, rfl⟩ := upd_of (show x 27 = .agg #[.int .i64 cL, .int .i64 cH] from hd 27 _ (by simp) rfl)
      obtain ⟨x, rfl⟩ := upd_of (show x 32 = .int .i64 ar from hd 32 _ (by simp) rfl)
      obtain ⟨x, rfl⟩ := upd_of (show x 37 = .int .i64 ru from hd 37 _ (by simp) rfl)
      show wpOp Try.prog _ _ 38 K (⟨#[_, _, _, _, _, x 39, _, _, _, _, _, _, _, _, _, _, _, _, _, _, x 0, x 1, x 2, x 3, x 4, x 5, x 6, x 7, x 8, x 9, x 10, .agg #[.int .i64 v0, .int .i64 eH], x 12, x 13, x 14, x 15, x 16, x 17, x 18, x 19, x 20, x 21, x 22, x 23, x 24, x 25, x 26, .agg #[.int .i64 cL, .int .i64 cH], x 28, x 29, x 30, x 31, .int .i64 ar, x 33, x 34, x 35, x 36, .int .i64 ru, x 38, _, _, _, _, _, _, _, _, _, _, _, _, _, _, _, _, _, _, _, _, _, _, _, _, _, _, _, _, _, _, _, _, _, _, _, _, _, _, _, _, _, _, _, _, _, _, _, _, _, _, _, _, _, _, _, _, _, _, _, _, _, _, _, _, _, _, _, _, _, _, _, _, _, _, _, _, _, _, _, _, _, _, _, _, _, _, _, _, _, _, _, _, _, _, _, _, _, _, _, _, _, _, _, _, _, _, _, _, _, _, _, _, _, _, _, _, _, _, _, _, _, _, _, _, _, _, _, _, _, _, _, _, _, _, _, _, _, _, _, _, _, _, _, _, _, _, _, _, _, _, _, _, _, _, _, _, _, _, _, _, _, _, _, _, _, _, _, _, _, _, _, _, _, _, _, _, _, _, _, _, _, _, _, _, _, _, _, _, _, _, _], []⟩ : Act) v
      refine wpOp_step rfl (fun K' hK' => ?_)
      go_simp
      exact hK' _ _ (hK _ _ (Below.refl _ _) (at_of rfl (rfl)))
    · show wpOp Try.prog _ _ 39 K (⟨#[_, _, _, _, _, x 39, _, _, _, _, _, _, _, _, _, _, _, _, _, _, x 0, x 1, x 2, x 3, x 4, x 5, x 6, x 7, x 8, x 9, x 10, x 11, x 12, x 13, x 14, x 15, x 16, x 17, x 18, x 19, x 20, x 21, x 22, x 23, x 24, x 25, x 26, x 27, x 28, x 29, x 30, x 31, x 32, x 33, x 34, x 35, x 36, x 37, x 38, _, _, _, _, _, _, _, _, _, _, _, _, _, _, _, _, _, _, _, _, _, _, _, _, _, _, _, _, _, _, _, _, _, _, _, _, _, _, _, _, _, _, _, _, _, _, _, _, _, _, _, _, _, _, _, _, _, _, _, _, _, _, _, _, _, _, _, _, _, _, _, _, _, _, _, _, _, _, _, _, _, _, _, _, _, _, _, _, _, _, _, _, _, _, _, _, _, _, _, _, _, _, _, _, _, _, _, _, _, _, _, _, _, _, _, _, _, _, _, _, _, _, _, _, _, _, _, _, _, _, _, _, _, _, _, _, _, _, _, _, _, _, _, _, _, _, _, _, _, _, _, _, _, _, _, _, _, _, _, _, _, _, _, _, _, _, _, _, _, _, _, _, _, _, _, _, _, _, _, _, _, _, _, _, _, _, _, _, _, _, _], []⟩ : Act) v
      refine wpOp_step rfl (fun K' hK' => ?_)
      go_simp
      have hg := Gr.al v (.cells #[.int .i64 0, .int .i64 0, .int .i64 0, .int .i64 0, .int .i64 0, .int .i64 0] 47)
      exact hK' _ _ (hK _ _ hg (at_of rfl (⟨_, rfl, by have := gv.size; omega, Own.new v [.int .i64 0, .int .i64 0, .int .i64 0, .int .i64 0, .int .i64 0, .int .i64 0] 47 _ rfl⟩)))
  case fin1 =>
    rintro x v gv hd
    obtain ⟨x, rfl⟩ := upd_of (show x 38 = .agg #[.int .i64 v0, .int .i64 eH, .int .i64 cL, .int .i64 cH, .int .i64 ar, .int .i64 ru] from hd 38 _ (by omega) rfl)
    obtain ⟨B5, e39, lB, oB⟩ := hd 39 _ (by omega) rfl
    obtain ⟨x, rfl⟩ := upd_of (show x 39 = .pointer (some ⟨B5, 0, none⟩) from e39)
    clear hd
    show wpList Try.prog _ _ (List.drop 40 _) (⟨#[_, _, _, _, _, .pointer (some ⟨B5, 0, none⟩), _, _, _, _, _, _, _, _, _, _, _, _, _, _, x 0, x 1, x 2, x 3, x 4, x 5, x 6, x 7, x 8, x 9, x 10, x 11, x 12, x 13, x 14, x 15, x 16, x 17, x 18, x 19, x 20, x 21, x 22, x 23, x 24, x 25, x 26, x 27, x 28, x 29, x 30, x 31, x 32, x 33, x 34, x 35, x 36, x 37, .agg #[.int .i64 v0, .int .i64 eH, .int .i64 cL, .int .i64 cH, .int .i64 ar, .int .i64 ru], _, _, _, _, _, _, _, _, _, _, _, _, _, _, _, _, _, _, _, _, _, _, _, _, _, _, _, _, _, _, _, _, _, _, _, _, _, _, _, _, _, _, _, _, _, _, _, _, _, _, _, _, _, _, _, _, _, _, _, _, _, _, _, _, _, _, _, _, _, _, _, _, _, _, _, _, _, _, _, _, _, _, _, _, _, _, _, _, _, _, _, _, _, _, _, _, _, _, _, _, _, _, _, _, _, _, _, _, _, _, _, _, _, _, _, _, _, _, _, _, _, _, _, _, _, _, _, _, _, _, _, _, _, _, _, _, _, _, _, _, _, _, _, _, _, _, _, _, _, _, _, _, _, _, _, _, _, _, _, _, _, _, _, _, _, _, _, _, _, _, _, _, _, _, _, _, _, _, _, _, _, _, _, _, _, _, _, _, _, _, _], []⟩ : Act) v
    simp only [List.drop_succ_cons, List.drop_zero]
    obtain ⟨p0, p1, p2, p3, p4, p5⟩ := oB.1.c6'
    have f0 := oB.2 0
    have f1 := oB.2 1
    have f2 := oB.2 2
    have f3 := oB.2 3
    have f4 := oB.2 4
    have f5 := oB.2 5
    have hv := hv.keep gv
    have gX := gg.tr gv
    clear q0 q1 q2 q3 q4 q5 z1 z2 z3 z4 z5 w1 w2 w3 w4 w5 c1 c2 c3 c4 c5 k0 k1 k2 k3 k4 k5 hx gg gv
    go_upto_region 2 with fail
    have oZ := (((((oB.set (i := 0) (v := .int .i64 v0) (by simp)).set (i := 1) (v := .int .i64 eH) (by simp)).set (i := 2) (v := .int .i64 cL) (by simp)).set (i := 3) (v := .int .i64 cH) (by simp)).set (i := 4) (v := .int .i64 ar) (by simp)).set (i := 5) (v := .int .i64 ru) (by simp)
    have gZ := (((((gX.setCell (p := ⟨B5, 0, none⟩) (show w.heap.size ≤ B5 by omega) (.int .i64 v0)).setCell (p := ⟨B5, 1, none⟩) (show w.heap.size ≤ B5 by omega) (.int .i64 eH)).setCell (p := ⟨B5, 2, none⟩) (show w.heap.size ≤ B5 by omega) (.int .i64 cL)).setCell (p := ⟨B5, 3, none⟩) (show w.heap.size ≤ B5 by omega) (.int .i64 cH)).setCell (p := ⟨B5, 4, none⟩) (show w.heap.size ≤ B5 by omega) (.int .i64 ar)).setCell (p := ⟨B5, 5, none⟩) (show w.heap.size ≤ B5 by omega) (.int .i64 ru)
    have n3 : w.heap.size + 1 ≠ B5 := by omega
    refine wp_abs (fun X => Gr w X ∧ Box X B5 [.int .i64 v0, .int .i64 eH, .int .i64 cL, .int .i64 cH, .int .i64 ar, .int .i64 ru] ∧ Own X (w.heap.size + 1) [.int .u8 y0, .int .u8 y1]) ⟨gZ, oZ.1, (((((hv.other n3).other n3).other n3).other n3).other n3).other n3⟩ ?_
    clear oZ gZ n3 f0 f1 f2 f3 f4 f5 p0 p1 p2 p3 p4 p5 oB hv gX
    rintro X ⟨gX, b5, o3⟩
    have b3 := o3.1
    generalize hEL : v0 = eL at *
    clear hEL
    obtain ⟨⟨el0, el1⟩, ⟨cl0, cl1, cl2⟩, ⟨ar0, ar1⟩, ru0, ru1⟩ := HB.out
    obtain ⟨S0, hS0⟩ : ∃ S0, strongB ar ru eL cL = S0 := ⟨_, rfl⟩
    obtain ⟨S1, hS1⟩ : ∃ S1, strongB ar ru eH cH = S1 := ⟨_, rfl⟩
    have bok : boxOk eL eH cL cH ar ru = true := by
      simp only [boxOk, okSpan, inB, in1, List.all_cons, List.all_nil, Bool.and_true, Bool.and_eq_true, decide_eq_true_eq]
      omega
    have cS : ∀ W, Calls Try.prog 29 #[.agg #[.int .i64 eL, .int .i64 eH, .int .i64 cL, .int .i64 cH, .int .i64 ar, .int .i64 ru]] W fun e w' => e = .returned (.tuple #[.agg #[.int .i64 S0, .int .i64 S1], .int .i64 0]) ∧ Gr W w' := fun W => by
      have := crushStrength_ok eL eH cL cH ar ru bok W
      rw [hS0, hS1] at this
      exact this
    have HS0 := Lib.hid hS0
    have HS1 := Lib.hid hS1
    have CS := Lib.hid cS
    clear cS hS0 hS1 bok
    obtain ⟨p0, p1, p2, p3, p4, p5⟩ := b5.c6'
    go_upto_region 5 with (go_at_call 29; refine (CS.out _).mono ?_; rintro e w2 ⟨rfl, g2⟩)
    obtain ⟨B6, hB6⟩ : ∃ B6, B6 = w2.heap.size := ⟨_, rfl⟩
    have gA := g2.tr (Gr.al w2 (.cells #[.int .i64 S0, .int .i64 S1] 45))
    have hS : RootS w B5 B6 y0 y1 eL eH cL cH ar ru S0 S1 (w2.alloc (.cells #[.int .i64 S0, .int .i64 S1] 45)) := ⟨gX.tr gA, b3.keep gA, b5.keep gA, Box.new w2 _ 45 B6 hB6⟩
    rw [← hB6]
    refine wp_abs (fun X => RootS w B5 B6 y0 y1 eL eH cL cH ar ru S0 S1 X) hS ?_
    clear hS gA gX b3 b5 g2 p0 p1 p2 p3 p4 p5 hB6 CS
    rintro X hS
    refine (show (∀ L : Nat → Value, Code.wp Try.prog _ _ ⟨#[L 0, L 1, .pointer (some ⟨w.heap.size, 0, none⟩), .pointer (some ⟨(w.heap.size + 1), 0, none⟩), .bool false, .pointer (some ⟨B5, 0, none⟩), .pointer (some ⟨B6, 0, none⟩), .int .i64 0, undef, undef, undef, undef, undef, undef, undef, undef, undef, undef, undef, undef, L 20, L 21, L 22, L 23, L 24, L 25, L 26, L 27, L 28, L 29, L 30, L 31, L 32, L 33, L 34, L 35, L 36, L 37, L 38, L 39, L 40, L 41, L 42, L 43, L 44, L 45, L 46, L 47, L 48, L 49, L 50, L 51, L 52, L 53, L 54, L 55, L 56, L 57, L 58, L 59, L 60, L 61, L 62, L 63, L 64, L 65, undef, undef, undef, undef, undef, undef, undef, undef, undef, undef, undef, undef, undef, undef, undef, undef, undef, undef, undef, undef, undef, undef, undef, undef, undef, undef, undef, undef, undef, undef, undef, undef, undef, undef, undef, undef, undef, undef, undef, undef, undef, undef, undef, undef, undef, undef, undef, undef, undef, undef, undef, undef, undef, undef, undef, undef, undef, undef, undef, undef, undef, undef, undef, undef, undef, undef, undef, undef, undef, undef, undef, undef, undef, undef, undef, undef, undef, undef, undef, undef, undef, undef, undef, undef, undef, undef, undef, undef, undef, undef, undef, undef, undef, undef, undef, undef, undef, undef, undef, undef, undef, undef, undef, undef, undef, undef, undef, undef, undef, undef, undef, undef, undef, undef, undef, undef, undef, undef, undef, undef, undef, undef, undef, undef, undef, undef, undef, undef, undef, undef, undef, undef, undef, undef, undef, undef, undef, undef, undef, undef, undef, undef, undef, undef, undef, undef, undef, undef, undef, undef, undef, undef, undef, undef, undef, undef, undef, undef, undef, undef, undef, undef, undef, undef, undef, undef, undef, undef, undef, undef, undef, undef, undef, undef, undef, undef, undef, undef, undef, undef, undef, undef, undef, undef], []⟩ _) → _ from fun h => h ((fun l : List Value => fun i => l.getD i undef) [_, _, undef, undef, undef, undef, undef, undef, undef, undef, undef, undef, undef, undef, undef, undef, undef, undef, undef, undef, _, _, _, _, _, _, _, _, _, _, _, _, _, _, _, _, _, _, _, _, _, _, _, _, _, _, _, _, _, _, _, _, _, _, _, _, _, _, _, _, _, _, _, _, _, _])) ?_
    intro L
    dsimp only
    go_wp2
    go_loopw [8] (fun t wr => Hid (∃ k : Nat, k ≤ 3 ∧ t = .int .i64 k ∧ RootS w B5 B6 y0 y1 eL eH cL cH ar ru S0 S1 wr)) (fun t _ => 3 - (intOf t).toNat)
    case atStart => exact Lib.hid ⟨0, by omega, rfl, hS⟩
    case round =>
      clear hS
      obtain ⟨k, hk, rfl, hS⟩ := hrel.out
      clear hrel
      by_cases hlt : k < 3
      · have hk3 : k = 0 ∨ k = 1 ∨ k = 2 := by omega
        rcases hk3 with rfl | rfl | rfl
        · have E0 : eL ≤ eL := Int.le_refl _
          have d0 : IntKind.i64.wrap (eH - eL) = eH - eL := IntWalk.i64_in _ (by omega)
          have d1 : IntKind.i64.wrap (cH - cL) = cH - cL := IntWalk.i64_in _ (by omega)
          have kE : IntKind.i64.wrap eL = eL := IntWalk.i64_in _ (by omega)
          have kC : IntKind.i64.wrap cL = cL := IntWalk.i64_in _ (by omega)
          have k9 : IntKind.i64.wrap y0 = y0 := IntWalk.i64_in _ (by omega)
          have k8 : IntKind.i64.wrap y1 = y1 := IntWalk.i64_in _ (by omega)
          have e0 : eL ≤ eL ∧ eL ≤ eH := by omega
          have e1 : cL ≤ cL ∧ cL ≤ cH := by omega
          obtain ⟨t0, t1⟩ := hS.b3.c2
          obtain ⟨p0, p1, p2, p3, p4, p5⟩ := hS.b5.c6'
          go_upto_region 8 with fail
          refine (show (∀ s : Nat → Value, Code.wp Try.prog _ _ ⟨#[L 0, L 1, .pointer (some ⟨w.heap.size, 0, none⟩), .pointer (some ⟨(w.heap.size + 1), 0, none⟩), s 4, .pointer (some ⟨B5, 0, none⟩), .pointer (some ⟨B6, 0, none⟩), .int .i64 0, .int .i64 ((0 : Nat) : Int), s 9, s 10, s 11, s 12, s 13, s 14, s 15, s 16, undef, undef, undef, L 20, L 21, L 22, L 23, L 24, L 25, L 26, L 27, L 28, L 29, L 30, L 31, L 32, L 33, L 34, L 35, L 36, L 37, L 38, L 39, L 40, L 41, L 42, L 43, L 44, L 45, L 46, L 47, L 48, L 49, L 50, L 51, L 52, L 53, L 54, L 55, L 56, L 57, L 58, L 59, L 60, L 61, L 62, L 63, L 64, L 65, s 66, s 67, s 68, s 69, s 70, s 71, s 72, s 73, s 74, s 75, s 76, s 77, s 78, s 79, s 80, s 81, s 82, s 83, s 84, s 85, s 86, s 87, s 88, s 89, s 90, s 91, s 92, s 93, s 94, s 95, s 96, s 97, s 98, s 99, s 100, s 101, s 102, s 103, s 104, s 105, s 106, s 107, s 108, s 109, s 110, s 111, s 112, s 113, s 114, s 115, s 116, s 117, s 118, s 119, s 120, s 121, s 122, s 123, s 124, s 125, s 126, s 127, s 128, s 129, s 130, s 131, s 132, s 133, s 134, s 135, s 136, s 137, s 138, s 139, s 140, s 141, s 142, s 143, s 144, s 145, s 146, s 147, s 148, s 149, s 150, s 151, s 152, s 153, s 154, s 155, s 156, s 157, s 158, s 159, s 160, s 161, s 162, s 163, s 164, s 165, s 166, s 167, s 168, s 169, s 170, s 171, s 172, s 173, s 174, s 175, s 176, s 177, s 178, s 179, s 180, s 181, s 182, s 183, s 184, s 185, s 186, s 187, s 188, s 189, s 190, s 191, s 192, s 193, s 194, s 195, s 196, s 197, s 198, s 199, s 200, s 201, s 202, s 203, s 204, s 205, s 206, s 207, s 208, undef, undef, undef, undef, undef, undef, undef, undef, undef, undef, undef, undef, undef, undef, undef, undef, undef, undef, undef, undef, undef, undef, undef, undef, undef, undef, undef, undef, undef, undef, undef, undef, undef, undef, undef, undef, undef, undef, undef, undef, undef], []⟩ _) → _ from fun h => h ((fun l : List Value => fun i => l.getD i undef) [undef, undef, undef, undef, _, undef, undef, undef, undef, _, _, _, _, _, _, _, _, undef, undef, undef, undef, undef, undef, undef, undef, undef, undef, undef, undef, undef, undef, undef, undef, undef, undef, undef, undef, undef, undef, undef, undef, undef, undef, undef, undef, undef, undef, undef, undef, undef, undef, undef, undef, undef, undef, undef, undef, undef, undef, undef, undef, undef, undef, undef, undef, undef, _, _, _, _, _, _, _, _, _, _, _, _, _, _, _, _, _, _, _, _, _, _, _, _, _, _, _, _, _, _, _, _, _, _, _, _, _, _, _, _, _, _, _, _, _, _, _, _, _, _, _, _, _, _, _, _, _, _, _, _, _, _, _, _, _, _, _, _, _, _, _, _, _, _, _, _, _, _, _, _, _, _, _, _, _, _, _, _, _, _, _, _, _, _, _, _, _, _, _, _, _, _, _, _, _, _, _, _, _, _, _, _, _, _, _, _, _, _, _, _, _, _, _, _, _, _, _, _, _, _, _, _, _, _, _, _, _, _, _, _, _, _, _, undef, undef, undef, undef, undef, undef, undef, undef, undef, undef, undef, undef, undef, undef, undef, undef, undef, undef, undef, undef, undef, undef, undef, undef, undef, undef, undef, undef, undef, undef, undef, undef, undef, undef, undef, undef, undef, undef, undef, undef, undef])) ?_
          intro s
          dsimp only
          refine wp_region_facts 19 [(1, 0), (2, 1), (4, 3), (5, 4), (6, 5), (8, 6), (8, 7), (10, 9), (11, 10), (13, 12), (14, 13), (15, 11), (15, 14), (16, 8), (16, 15), (17, 16), (18, 2), (18, 17)] (fun x => ⟨#[L 0, L 1, .pointer (some ⟨w.heap.size, 0, none⟩), .pointer (some ⟨(w.heap.size + 1), 0, none⟩), s 4, .pointer (some ⟨B5, 0, none⟩), .pointer (some ⟨B6, 0, none⟩), .int .i64 0, .int .i64 ((0 : Nat) : Int), s 9, s 10, s 11, s 12, s 13, s 14, s 15, s 16, undef, undef, undef, L 20, L 21, L 22, L 23, L 24, L 25, L 26, L 27, L 28, L 29, L 30, L 31, L 32, L 33, L 34, L 35, L 36, L 37, L 38, L 39, L 40, L 41, L 42, L 43, L 44, L 45, L 46, L 47, L 48, L 49, L 50, L 51, L 52, L 53, L 54, L 55, L 56, L 57, L 58, L 59, L 60, L 61, L 62, L 63, L 64, L 65, s 66, s 67, s 68, s 69, x 0, x 1, x 2, x 3, x 4, x 5, x 6, x 7, x 8, x 9, x 10, x 11, x 12, x 13, x 14, x 15, x 16, x 17, x 18, s 89, s 90, s 91, s 92, s 93, s 94, s 95, s 96, s 97, s 98, s 99, s 100, s 101, s 102, s 103, s 104, s 105, s 106, s 107, s 108, s 109, s 110, s 111, s 112, s 113, s 114, s 115, s 116, s 117, s 118, s 119, s 120, s 121, s 122, s 123, s 124, s 125, s 126, s 127, s 128, s 129, s 130, s 131, s 132, s 133, s 134, s 135, s 136, s 137, s 138, s 139, s 140, s 141, s 142, s 143, s 144, s 145, s 146, s 147, s 148, s 149, s 150, s 151, s 152, s 153, s 154, s 155, s 156, s 157, s 158, s 159, s 160, s 161, s 162, s 163, s 164, s 165, s 166, s 167, s 168, s 169, s 170, s 171, s 172, s 173, s 174, s 175, s 176, s 177, s 178, s 179, s 180, s 181, s 182, s 183, s 184, s 185, s 186, s 187, s 188, s 189, s 190, s 191, s 192, s 193, s 194, s 195, s 196, s 197, s 198, s 199, s 200, s 201, s 202, s 203, s 204, s 205, s 206, s 207, s 208, undef, undef, undef, undef, undef, undef, undef, undef, undef, undef, undef, undef, undef, undef, undef, undef, undef, undef, undef, undef, undef, undef, undef, undef, undef, undef, undef, undef, undef, undef, undef, undef, undef, undef, undef, undef, undef, undef, undef, undef, undef], []⟩) (fun i => s (i + 70)) [fun _ x => x = .pointer (some ⟨B5, 0, none⟩), fun _ x => x = .pointer (some ⟨B5, 0, none⟩), fun _ x => x = .int .i64 eL, fun _ x => x = .pointer (some ⟨(w.heap.size + 1), 0, none⟩), fun _ x => x = .int .u8 y0, fun _ x => x = .int .i64 y0, fun _ x => x = .agg #[.int .i64 0, .int .i64 255, .int .i64 y0], fun _ x => x = .int .i64 ((0 : Nat) : Int), fun _ x => x = .int .i64 0, fun _ x => x = .pointer (some ⟨B5, 0, none⟩), fun _ x => x = .pointer (some ⟨B5, 1, none⟩), fun _ x => x = .int .i64 eH, fun _ x => x = .pointer (some ⟨B5, 0, none⟩), fun _ x => x = .pointer (some ⟨B5, 0, none⟩), fun _ x => x = .int .i64 eL, fun _ x => x = .int .i64 (eH - eL), fun _ x => x = .int .i64 0, fun _ x => x = .int .i64 0, fun _ x => x = .int .i64 eL] (by rfl) (by kernel_rfl) (by kernel_rfl) (by kernel_rfl) (stays_cons (Stays.eq _) (stays_cons (Stays.eq _) (stays_cons (Stays.eq _) (stays_cons (Stays.eq _) (stays_cons (Stays.eq _) (stays_cons (Stays.eq _) (stays_cons (Stays.eq _) (stays_cons (Stays.eq _) (stays_cons (Stays.eq _) (stays_cons (Stays.eq _) (stays_cons (Stays.eq _) (stays_cons (Stays.eq _) (stays_cons (Stays.eq _) (stays_cons (Stays.eq _) (stays_cons (Stays.eq _) (stays_cons (Stays.eq _) (stays_cons (Stays.eq _) (stays_cons (Stays.eq _) (stays_cons (Stays.eq _) stays_nil))))))))))))))))))) ?step8_0 ?fin8_0
          case step8_0 =>
            rintro i hi x v gv hd K hK
            have hi8 : i = 0 ∨ i = 1 ∨ i = 2 ∨ i = 3 ∨ i = 4 ∨ i = 5 ∨ i = 6 ∨ i = 7 ∨ i = 8 ∨ i = 9 ∨ i = 10 ∨ i = 11 ∨ i = 12 ∨ i = 13 ∨ i = 14 ∨ i = 15 ∨ i = 16 ∨ i = 17 ∨ i = 18 := by omega
            rcases hi8 with rfl | rfl | rfl | rfl | rfl | rfl | rfl | rfl | rfl | rfl | rfl | rfl | rfl | rfl | rfl | rfl | rfl | rfl | rfl
            · show wpOp Try.prog _ _ 0 K (⟨#[_, _, _, _, _, _, _, _, _, _, _, _, _, _, _, _, _, _, _, _, _, _, _, _, _, _, _, _, _, _, _, _, _, _, _, _, _, _, _, _, _, _, _, _, _, _, _, _, _, _, _, _, _, _, _, _, _, _, _, _, _, _, _, _, _, _, _, _, _, _, x 0, x 1, x 2, x 3, x 4, x 5, x 6, x 7, x 8, x 9, x 10, x 11, x 12, x 13, x 14, x 15, x 16, x 17, x 18, _, _, _, _, _, _, _, _, _, _, _, _, _, _, _, _, _, _, _, _, _, _, _, _, _, _, _, _, _, _, _, _, _, _, _, _, _, _, _, _, _, _, _, _, _, _, _, _, _, _, _, _, _, _, _, _, _, _, _, _, _, _, _, _, _, _, _, _, _, _, _, _, _, _, _, _, _, _, _, _, _, _, _, _, _, _, _, _, _, _, _, _, _, _, _, _, _, _, _, _, _, _, _, _, _, _, _, _, _, _, _, _, _, _, _, _, _, _, _, _, _, _, _, _, _, _, _, _, _, _, _, _, _, _, _, _, _, _, _, _, _, _, _, _, _, _, _, _, _, _, _, _, _, _, _, _, _, _, _, _, _], []⟩ : Act) v
              refine wpOp_step rfl (fun K' hK' => ?_)
              go_simp
              exact hK' _ _ (hK _ _ (Below.refl _ _) (at_of rfl (rfl)))
            · obtain ⟨x, rfl⟩ := upd_of (show x 0 = .pointer (some ⟨B5, 0, none⟩) from hd 0 _ (by simp) rfl)
              show wpOp Try.prog _ _ 1 K (⟨#[_, _, _, _, _, _, _, _, _, _, _, _, _, _, _, _, _, _, _, _, _, _, _, _, _, _, _, _, _, _, _, _, _, _, _, _, _, _, _, _, _, _, _, _, _, _, _, _, _, _, _, _, _, _, _, _, _, _, _, _, _, _, _, _, _, _, _, _, _, _, .pointer (some ⟨B5, 0, none⟩), x 1, x 2, x 3, x 4, x 5, x 6, x 7, x 8, x 9, x 10, x 11, x 12, x 13, x 14, x 15, x 16, x 17, x 18, _, _, _, _, _, _, _, _, _, _, _, _, _, _, _, _, _, _, _, _, _, _, _, _, _, _, _, _, _, _, _, _, _, _, _, _, _, _, _, _, _, _, _, _, _, _, _, _, _, _, _, _, _, _, _, _, _, _, _, _, _, _, _, _, _, _, _, _, _, _, _, _, _, _, _, _, _, _, _, _, _, _, _, _, _, _, _, _, _, _, _, _, _, _, _, _, _, _, _, _, _, _, _, _, _, _, _, _, _, _, _, _, _, _, _, _, _, _, _, _, _, _, _, _, _, _, _, _, _, _, _, _, _, _, _, _, _, _, _, _, _, _, _, _, _, _, _, _, _, _, _, _, _, _, _, _, _, _, _, _, _], []⟩ : Act) v
              refine wpOp_step rfl (fun K' hK' => ?_)
              go_simp
              exact hK' _ _ (hK _ _ (Below.refl _ _) (at_of rfl (rfl)))
            · obtain ⟨x, rfl⟩ := upd_of (show x 1 = .pointer (some ⟨B5, 0, none⟩) from hd 1 _ (by simp) rfl)
              show wpOp Try.prog _ _ 2 K (⟨#[_, _, _, _, _, _, _, _, _, _, _, _, _, _, _, _, _, _, _, _, _, _, _, _, _, _, _, _, _, _, _, _, _, _, _, _, _, _, _, _, _, _, _, _, _, _, _, _, _, _, _, _, _, _, _, _, _, _, _, _, _, _, _, _, _, _, _, _, _, _, x 0, .pointer (some ⟨B5, 0, none⟩), x 2, x 3, x 4, x 5, x 6, x 7, x 8, x 9, x 10, x 11, x 12, x 13, x 14, x 15, x 16, x 17, x 18, _, _, _, _, _, _, _, _, _, _, _, _, _, _, _, _, _, _, _, _, _, _, _, _, _, _, _, _, _, _, _, _, _, _, _, _, _, _, _, _, _, _, _, _, _, _, _, _, _, _, _, _, _, _, _, _, _, _, _, _, _, _, _, _, _, _, _, _, _, _, _, _, _, _, _, _, _, _, _, _, _, _, _, _, _, _, _, _, _, _, _, _, _, _, _, _, _, _, _, _, _, _, _, _, _, _, _, _, _, _, _, _, _, _, _, _, _, _, _, _, _, _, _, _, _, _, _, _, _, _, _, _, _, _, _, _, _, _, _, _, _, _, _, _, _, _, _, _, _, _, _, _, _, _, _, _, _, _, _, _, _], []⟩ : Act) v
              refine wpOp_step rfl (fun K' hK' => ?_)
              have q := gv.keep p0
              go_simp
              exact hK' _ _ (hK _ _ (Below.refl _ _) (at_of rfl (rfl)))
            · show wpOp Try.prog _ _ 3 K (⟨#[_, _, _, _, _, _, _, _, _, _, _, _, _, _, _, _, _, _, _, _, _, _, _, _, _, _, _, _, _, _, _, _, _, _, _, _, _, _, _, _, _, _, _, _, _, _, _, _, _, _, _, _, _, _, _, _, _, _, _, _, _, _, _, _, _, _, _, _, _, _, x 0, x 1, x 2, x 3, x 4, x 5, x 6, x 7, x 8, x 9, x 10, x 11, x 12, x 13, x 14, x 15, x 16, x 17, x 18, _, _, _, _, _, _, _, _, _, _, _, _, _, _, _, _, _, _, _, _, _, _, _, _, _, _, _, _, _, _, _, _, _, _, _, _, _, _, _, _, _, _, _, _, _, _, _, _, _, _, _, _, _, _, _, _, _, _, _, _, _, _, _, _, _, _, _, _, _, _, _, _, _, _, _, _, _, _, _, _, _, _, _, _, _, _, _, _, _, _, _, _, _, _, _, _, _, _, _, _, _, _, _, _, _, _, _, _, _, _, _, _, _, _, _, _, _, _, _, _, _, _, _, _, _, _, _, _, _, _, _, _, _, _, _, _, _, _, _, _, _, _, _, _, _, _, _, _, _, _, _, _, _, _, _, _, _, _, _, _, _], []⟩ : Act) v
              refine wpOp_step rfl (fun K' hK' => ?_)
              go_simp
              exact hK' _ _ (hK _ _ (Below.refl _ _) (at_of rfl (rfl)))
            · obtain ⟨x, rfl⟩ := upd_of (show x 3 = .pointer (some ⟨(w.heap.size + 1), 0, none⟩) from hd 3 _ (by simp) rfl)
              show wpOp Try.prog _ _ 4 K (⟨#[_, _, _, _, _, _, _, _, _, _, _, _, _, _, _, _, _, _, _, _, _, _, _, _, _, _, _, _, _, _, _, _, _, _, _, _, _, _, _, _, _, _, _, _, _, _, _, _, _, _, _, _, _, _, _, _, _, _, _, _, _, _, _, _, _, _, _, _, _, _, x 0, x 1, x 2, .pointer (some ⟨(w.heap.size + 1), 0, none⟩), x 4, x 5, x 6, x 7, x 8, x 9, x 10, x 11, x 12, x 13, x 14, x 15, x 16, x 17, x 18, _, _, _, _, _, _, _, _, _, _, _, _, _, _, _, _, _, _, _, _, _, _, _, _, _, _, _, _, _, _, _, _, _, _, _, _, _, _, _, _, _, _, _, _, _, _, _, _, _, _, _, _, _, _, _, _, _, _, _, _, _, _, _, _, _, _, _, _, _, _, _, _, _, _, _, _, _, _, _, _, _, _, _, _, _, _, _, _, _, _, _, _, _, _, _, _, _, _, _, _, _, _, _, _, _, _, _, _, _, _, _, _, _, _, _, _, _, _, _, _, _, _, _, _, _, _, _, _, _, _, _, _, _, _, _, _, _, _, _, _, _, _, _, _, _, _, _, _, _, _, _, _, _, _, _, _, _, _, _, _, _], []⟩ : Act) v
              refine wpOp_step rfl (fun K' hK' => ?_)
              have q := gv.keep t0
              go_simp
              exact hK' _ _ (hK _ _ (Below.refl _ _) (at_of rfl (rfl)))
            · obtain ⟨x, rfl⟩ := upd_of (show x 4 = .int .u8 y0 from hd 4 _ (by simp) rfl)
              show wpOp Try.prog _ _ 5 K (⟨#[_, _, _, _, _, _, _, _, _, _, _, _, _, _, _, _, _, _, _, _, _, _, _, _, _, _, _, _, _, _, _, _, _, _, _, _, _, _, _, _, _, _, _, _, _, _, _, _, _, _, _, _, _, _, _, _, _, _, _, _, _, _, _, _, _, _, _, _, _, _, x 0, x 1, x 2, x 3, .int .u8 y0, x 5, x 6, x 7, x 8, x 9, x 10, x 11, x 12, x 13, x 14, x 15, x 16, x 17, x 18, _, _, _, _, _, _, _, _, _, _, _, _, _, _, _, _, _, _, _, _, _, _, _, _, _, _, _, _, _, _, _, _, _, _, _, _, _, _, _, _, _, _, _, _, _, _, _, _, _, _, _, _, _, _, _, _, _, _, _, _, _, _, _, _, _, _, _, _, _, _, _, _, _, _, _, _, _, _, _, _, _, _, _, _, _, _, _, _, _, _, _, _, _, _, _, _, _, _, _, _, _, _, _, _, _, _, _, _, _, _, _, _, _, _, _, _, _, _, _, _, _, _, _, _, _, _, _, _, _, _, _, _, _, _, _, _, _, _, _, _, _, _, _, _, _, _, _, _, _, _, _, _, _, _, _, _, _, _, _, _, _], []⟩ : Act) v
              refine wpOp_step rfl (fun K' hK' => ?_)
              go_simp
              exact hK' _ _ (hK _ _ (Below.refl _ _) (at_of rfl (rfl)))
            · obtain ⟨x, rfl⟩ := upd_of (show x 5 = .int .i64 y0 from hd 5 _ (by simp) rfl)
              show wpOp Try.prog _ _ 6 K (⟨#[_, _, _, _, _, _, _, _, _, _, _, _, _, _, _, _, _, _, _, _, _, _, _, _, _, _, _, _, _, _, _, _, _, _, _, _, _, _, _, _, _, _, _, _, _, _, _, _, _, _, _, _, _, _, _, _, _, _, _, _, _, _, _, _, _, _, _, _, _, _, x 0, x 1, x 2, x 3, x 4, .int .i64 y0, x 6, x 7, x 8, x 9, x 10, x 11, x 12, x 13, x 14, x 15, x 16, x 17, x 18, _, _, _, _, _, _, _, _, _, _, _, _, _, _, _, _, _, _, _, _, _, _, _, _, _, _, _, _, _, _, _, _, _, _, _, _, _, _, _, _, _, _, _, _, _, _, _, _, _, _, _, _, _, _, _, _, _, _, _, _, _, _, _, _, _, _, _, _, _, _, _, _, _, _, _, _, _, _, _, _, _, _, _, _, _, _, _, _, _, _, _, _, _, _, _, _, _, _, _, _, _, _, _, _, _, _, _, _, _, _, _, _, _, _, _, _, _, _, _, _, _, _, _, _, _, _, _, _, _, _, _, _, _, _, _, _, _, _, _, _, _, _, _, _, _, _, _, _, _, _, _, _, _, _, _, _, _, _, _, _, _], []⟩ : Act) v
              refine wpOp_step rfl (fun K' hK' => ?_)
              go_simp
              exact hK' _ _ (hK _ _ (Below.refl _ _) (at_of rfl (rfl)))
            · show wpOp Try.prog _ _ 7 K (⟨#[_, _, _, _, _, _, _, _, _, _, _, _, _, _, _, _, _, _, _, _, _, _, _, _, _, _, _, _, _, _, _, _, _, _, _, _, _, _, _, _, _, _, _, _, _, _, _, _, _, _, _, _, _, _, _, _, _, _, _, _, _, _, _, _, _, _, _, _, _, _, x 0, x 1, x 2, x 3, x 4, x 5, x 6, x 7, x 8, x 9, x 10, x 11, x 12, x 13, x 14, x 15, x 16, x 17, x 18, _, _, _, _, _, _, _, _, _, _, _, _, _, _, _, _, _, _, _, _, _, _, _, _, _, _, _, _, _, _, _, _, _, _, _, _, _, _, _, _, _, _, _, _, _, _, _, _, _, _, _, _, _, _, _, _, _, _, _, _, _, _, _, _, _, _, _, _, _, _, _, _, _, _, _, _, _, _, _, _, _, _, _, _, _, _, _, _, _, _, _, _, _, _, _, _, _, _, _, _, _, _, _, _, _, _, _, _, _, _, _, _, _, _, _, _, _, _, _, _, _, _, _, _, _, _, _, _, _, _, _, _, _, _, _, _, _, _, _, _, _, _, _, _, _, _, _, _, _, _, _, _, _, _, _, _, _, _, _, _, _], []⟩ : Act) v
              refine wpOp_step rfl (fun K' hK' => ?_)
              go_simp
              exact hK' _ _ (hK _ _ (Below.refl _ _) (at_of rfl (rfl)))
            · obtain ⟨x, rfl⟩ := upd_of (show x 6 = .agg #[.int .i64 0, .int .i64 255, .int .i64 y0] from hd 6 _ (by simp) rfl)
              obtain ⟨x, rfl⟩ := upd_of (show x 7 = .int .i64 ((0 : Nat) : Int) from hd 7 _ (by simp) rfl)
              show wpOp Try.prog _ _ 8 K (⟨#[_, _, _, _, _, _, _, _, _, _, _, _, _, _, _, _, _, _, _, _, _, _, _, _, _, _, _, _, _, _, _, _, _, _, _, _, _, _, _, _, _, _, _, _, _, _, _, _, _, _, _, _, _, _, _, _, _, _, _, _, _, _, _, _, _, _, _, _, _, _, x 0, x 1, x 2, x 3, x 4, x 5, .agg #[.int .i64 0, .int .i64 255, .int .i64 y0], .int .i64 ((0 : Nat) : Int), x 8, x 9, x 10, x 11, x 12, x 13, x 14, x 15, x 16, x 17, x 18, _, _, _, _, _, _, _, _, _, _, _, _, _, _, _, _, _, _, _, _, _, _, _, _, _, _, _, _, _, _, _, _, _, _, _, _, _, _, _, _, _, _, _, _, _, _, _, _, _, _, _, _, _, _, _, _, _, _, _, _, _, _, _, _, _, _, _, _, _, _, _, _, _, _, _, _, _, _, _, _, _, _, _, _, _, _, _, _, _, _, _, _, _, _, _, _, _, _, _, _, _, _, _, _, _, _, _, _, _, _, _, _, _, _, _, _, _, _, _, _, _, _, _, _, _, _, _, _, _, _, _, _, _, _, _, _, _, _, _, _, _, _, _, _, _, _, _, _, _, _, _, _, _, _, _, _, _, _, _, _, _], []⟩ : Act) v
              refine wpOp_step rfl (fun K' hK' => ?_)
              go_simp
              exact hK' _ _ (hK _ _ (Below.refl _ _) (at_of rfl (rfl)))
            · show wpOp Try.prog _ _ 9 K (⟨#[_, _, _, _, _, _, _, _, _, _, _, _, _, _, _, _, _, _, _, _, _, _, _, _, _, _, _, _, _, _, _, _, _, _, _, _, _, _, _, _, _, _, _, _, _, _, _, _, _, _, _, _, _, _, _, _, _, _, _, _, _, _, _, _, _, _, _, _, _, _, x 0, x 1, x 2, x 3, x 4, x 5, x 6, x 7, x 8, x 9, x 10, x 11, x 12, x 13, x 14, x 15, x 16, x 17, x 18, _, _, _, _, _, _, _, _, _, _, _, _, _, _, _, _, _, _, _, _, _, _, _, _, _, _, _, _, _, _, _, _, _, _, _, _, _, _, _, _, _, _, _, _, _, _, _, _, _, _, _, _, _, _, _, _, _, _, _, _, _, _, _, _, _, _, _, _, _, _, _, _, _, _, _, _, _, _, _, _, _, _, _, _, _, _, _, _, _, _, _, _, _, _, _, _, _, _, _, _, _, _, _, _, _, _, _, _, _, _, _, _, _, _, _, _, _, _, _, _, _, _, _, _, _, _, _, _, _, _, _, _, _, _, _, _, _, _, _, _, _, _, _, _, _, _, _, _, _, _, _, _, _, _, _, _, _, _, _, _, _], []⟩ : Act) v
              refine wpOp_step rfl (fun K' hK' => ?_)
              go_simp
              exact hK' _ _ (hK _ _ (Below.refl _ _) (at_of rfl (rfl)))
            · obtain ⟨x, rfl⟩ := upd_of (show x 9 = .pointer (some ⟨B5, 0, none⟩) from hd 9 _ (by simp) rfl)
              show wpOp Try.prog _ _ 10 K (⟨#[_, _, _, _, _, _, _, _, _, _, _, _, _, _, _, _, _, _, _, _, _, _, _, _, _, _, _, _, _, _, _, _, _, _, _, _, _, _, _, _, _, _, _, _, _, _, _, _, _, _, _, _, _, _, _, _, _, _, _, _, _, _, _, _, _, _, _, _, _, _, x 0, x 1, x 2, x 3, x 4, x 5, x 6, x 7, x 8, .pointer (some ⟨B5, 0, none⟩), x 10, x 11, x 12, x 13, x 14, x 15, x 16, x 17, x 18, _, _, _, _, _, _, _, _, _, _, _, _, _, _, _, _, _, _, _, _, _, _, _, _, _, _, _, _, _, _, _, _, _, _, _, _, _, _, _, _, _, _, _, _, _, _, _, _, _, _, _, _, _, _, _, _, _, _, _, _, _, _, _, _, _, _, _, _, _, _, _, _, _, _, _, _, _, _, _, _, _, _, _, _, _, _, _, _, _, _, _, _, _, _, _, _, _, _, _, _, _, _, _, _, _, _, _, _, _, _, _, _, _, _, _, _, _, _, _, _, _, _, _, _, _, _, _, _, _, _, _, _, _, _, _, _, _, _, _, _, _, _, _, _, _, _, _, _, _, _, _, _, _, _, _, _, _, _, _, _, _], []⟩ : Act) v
              refine wpOp_step rfl (fun K' hK' => ?_)
              go_simp
              exact hK' _ _ (hK _ _ (Below.refl _ _) (at_of rfl (rfl)))
            · obtain ⟨x, rfl⟩ := upd_of (show x 10 = .pointer (some ⟨B5, 1, none⟩) from hd 10 _ (by simp) rfl)
              show wpOp Try.prog _ _ 11 K (⟨#[_, _, _, _, _, _, _, _, _, _, _, _, _, _, _, _, _, _, _, _, _, _, _, _, _, _, _, _, _, _, _, _, _, _, _, _, _, _, _, _, _, _, _, _, _, _, _, _, _, _, _, _, _, _, _, _, _, _, _, _, _, _, _, _, _, _, _, _, _, _, x 0, x 1, x 2, x 3, x 4, x 5, x 6, x 7, x 8, x 9, .pointer (some ⟨B5, 1, none⟩), x 11, x 12, x 13, x 14, x 15, x 16, x 17, x 18, _, _, _, _, _, _, _, _, _, _, _, _, _, _, _, _, _, _, _, _, _, _, _, _, _, _, _, _, _, _, _, _, _, _, _, _, _, _, _, _, _, _, _, _, _, _, _, _, _, _, _, _, _, _, _, _, _, _, _, _, _, _, _, _, _, _, _, _, _, _, _, _, _, _, _, _, _, _, _, _, _, _, _, _, _, _, _, _, _, _, _, _, _, _, _, _, _, _, _, _, _, _, _, _, _, _, _, _, _, _, _, _, _, _, _, _, _, _, _, _, _, _, _, _, _, _, _, _, _, _, _, _, _, _, _, _, _, _, _, _, _, _, _, _, _, _, _, _, _, _, _, _, _, _, _, _, _, _, _, _, _], []⟩ : Act) v
              refine wpOp_step rfl (fun K' hK' => ?_)
              have q := gv.keep p1
              go_simp
              exact hK' _ _ (hK _ _ (Below.refl _ _) (at_of rfl (rfl)))
            · show wpOp Try.prog _ _ 12 K (⟨#[_, _, _, _, _, _, _, _, _, _, _, _, _, _, _, _, _, _, _, _, _, _, _, _, _, _, _, _, _, _, _, _, _, _, _, _, _, _, _, _, _, _, _, _, _, _, _, _, _, _, _, _, _, _, _, _, _, _, _, _, _, _, _, _, _, _, _, _, _, _, x 0, x 1, x 2, x 3, x 4, x 5, x 6, x 7, x 8, x 9, x 10, x 11, x 12, x 13, x 14, x 15, x 16, x 17, x 18, _, _, _, _, _, _, _, _, _, _, _, _, _, _, _, _, _, _, _, _, _, _, _, _, _, _, _, _, _, _, _, _, _, _, _, _, _, _, _, _, _, _, _, _, _, _, _, _, _, _, _, _, _, _, _, _, _, _, _, _, _, _, _, _, _, _, _, _, _, _, _, _, _, _, _, _, _, _, _, _, _, _, _, _, _, _, _, _, _, _, _, _, _, _, _, _, _, _, _, _, _, _, _, _, _, _, _, _, _, _, _, _, _, _, _, _, _, _, _, _, _, _, _, _, _, _, _, _, _, _, _, _, _, _, _, _, _, _, _, _, _, _, _, _, _, _, _, _, _, _, _, _, _, _, _, _, _, _, _, _, _], []⟩ : Act) v
              refine wpOp_step rfl (fun K' hK' => ?_)
              go_simp
              exact hK' _ _ (hK _ _ (Below.refl _ _) (at_of rfl (rfl)))
            · obtain ⟨x, rfl⟩ := upd_of (show x 12 = .pointer (some ⟨B5, 0, none⟩) from hd 12 _ (by simp) rfl)
              show wpOp Try.prog _ _ 13 K (⟨#[_, _, _, _, _, _, _, _, _, _, _, _, _, _, _, _, _, _, _, _, _, _, _, _, _, _, _, _, _, _, _, _, _, _, _, _, _, _, _, _, _, _, _, _, _, _, _, _, _, _, _, _, _, _, _, _, _, _, _, _, _, _, _, _, _, _, _, _, _, _, x 0, x 1, x 2, x 3, x 4, x 5, x 6, x 7, x 8, x 9, x 10, x 11, .pointer (some ⟨B5, 0, none⟩), x 13, x 14, x 15, x 16, x 17, x 18, _, _, _, _, _, _, _, _, _, _, _, _, _, _, _, _, _, _, _, _, _, _, _, _, _, _, _, _, _, _, _, _, _, _, _, _, _, _, _, _, _, _, _, _, _, _, _, _, _, _, _, _, _, _, _, _, _, _, _, _, _, _, _, _, _, _, _, _, _, _, _, _, _, _, _, _, _, _, _, _, _, _, _, _, _, _, _, _, _, _, _, _, _, _, _, _, _, _, _, _, _, _, _, _, _, _, _, _, _, _, _, _, _, _, _, _, _, _, _, _, _, _, _, _, _, _, _, _, _, _, _, _, _, _, _, _, _, _, _, _, _, _, _, _, _, _, _, _, _, _, _, _, _, _, _, _, _, _, _, _, _], []⟩ : Act) v
              refine wpOp_step rfl (fun K' hK' => ?_)
              go_simp
              exact hK' _ _ (hK _ _ (Below.refl _ _) (at_of rfl (rfl)))
            · obtain ⟨x, rfl⟩ := upd_of (show x 13 = .pointer (some ⟨B5, 0, none⟩) from hd 13 _ (by simp) rfl)
              show wpOp Try.prog _ _ 14 K (⟨#[_, _, _, _, _, _, _, _, _, _, _, _, _, _, _, _, _, _, _, _, _, _, _, _, _, _, _, _, _, _, _, _, _, _, _, _, _, _, _, _, _, _, _, _, _, _, _, _, _, _, _, _, _, _, _, _, _, _, _, _, _, _, _, _, _, _, _, _, _, _, x 0, x 1, x 2, x 3, x 4, x 5, x 6, x 7, x 8, x 9, x 10, x 11, x 12, .pointer (some ⟨B5, 0, none⟩), x 14, x 15, x 16, x 17, x 18, _, _, _, _, _, _, _, _, _, _, _, _, _, _, _, _, _, _, _, _, _, _, _, _, _, _, _, _, _, _, _, _, _, _, _, _, _, _, _, _, _, _, _, _, _, _, _, _, _, _, _, _, _, _, _, _, _, _, _, _, _, _, _, _, _, _, _, _, _, _, _, _, _, _, _, _, _, _, _, _, _, _, _, _, _, _, _, _, _, _, _, _, _, _, _, _, _, _, _, _, _, _, _, _, _, _, _, _, _, _, _, _, _, _, _, _, _, _, _, _, _, _, _, _, _, _, _, _, _, _, _, _, _, _, _, _, _, _, _, _, _, _, _, _, _, _, _, _, _, _, _, _, _, _, _, _, _, _, _, _, _], []⟩ : Act) v
              refine wpOp_step rfl (fun K' hK' => ?_)
              have q := gv.keep p0
              go_simp
              exact hK' _ _ (hK _ _ (Below.refl _ _) (at_of rfl (rfl)))
            · obtain ⟨x, rfl⟩ := upd_of (show x 11 = .int .i64 eH from hd 11 _ (by simp) rfl)
              obtain ⟨x, rfl⟩ := upd_of (show x 14 = .int .i64 eL from hd 14 _ (by simp) rfl)
              show wpOp Try.prog _ _ 15 K (⟨#[_, _, _, _, _, _, _, _, _, _, _, _, _, _, _, _, _, _, _, _, _, _, _, _, _, _, _, _, _, _, _, _, _, _, _, _, _, _, _, _, _, _, _, _, _, _, _, _, _, _, _, _, _, _, _, _, _, _, _, _, _, _, _, _, _, _, _, _, _, _, x 0, x 1, x 2, x 3, x 4, x 5, x 6, x 7, x 8, x 9, x 10, .int .i64 eH, x 12, x 13, .int .i64 eL, x 15, x 16, x 17, x 18, _, _, _, _, _, _, _, _, _, _, _, _, _, _, _, _, _, _, _, _, _, _, _, _, _, _, _, _, _, _, _, _, _, _, _, _, _, _, _, _, _, _, _, _, _, _, _, _, _, _, _, _, _, _, _, _, _, _, _, _, _, _, _, _, _, _, _, _, _, _, _, _, _, _, _, _, _, _, _, _, _, _, _, _, _, _, _, _, _, _, _, _, _, _, _, _, _, _, _, _, _, _, _, _, _, _, _, _, _, _, _, _, _, _, _, _, _, _, _, _, _, _, _, _, _, _, _, _, _, _, _, _, _, _, _, _, _, _, _, _, _, _, _, _, _, _, _, _, _, _, _, _, _, _, _, _, _, _, _, _, _], []⟩ : Act) v
              refine wpOp_step rfl (fun K' hK' => ?_)
              go_simp
              exact hK' _ _ (hK _ _ (Below.refl _ _) (at_of rfl (rfl)))
            · obtain ⟨x, rfl⟩ := upd_of (show x 8 = .int .i64 0 from hd 8 _ (by simp) rfl)
              obtain ⟨x, rfl⟩ := upd_of (show x 15 = .int .i64 (eH - eL) from hd 15 _ (by simp) rfl)
              show wpOp Try.prog _ _ 16 K (⟨#[_, _, _, _, _, _, _, _, _, _, _, _, _, _, _, _, _, _, _, _, _, _, _, _, _, _, _, _, _, _, _, _, _, _, _, _, _, _, _, _, _, _, _, _, _, _, _, _, _, _, _, _, _, _, _, _, _, _, _, _, _, _, _, _, _, _, _, _, _, _, x 0, x 1, x 2, x 3, x 4, x 5, x 6, x 7, .int .i64 0, x 9, x 10, x 11, x 12, x 13, x 14, .int .i64 (eH - eL), x 16, x 17, x 18, _, _, _, _, _, _, _, _, _, _, _, _, _, _, _, _, _, _, _, _, _, _, _, _, _, _, _, _, _, _, _, _, _, _, _, _, _, _, _, _, _, _, _, _, _, _, _, _, _, _, _, _, _, _, _, _, _, _, _, _, _, _, _, _, _, _, _, _, _, _, _, _, _, _, _, _, _, _, _, _, _, _, _, _, _, _, _, _, _, _, _, _, _, _, _, _, _, _, _, _, _, _, _, _, _, _, _, _, _, _, _, _, _, _, _, _, _, _, _, _, _, _, _, _, _, _, _, _, _, _, _, _, _, _, _, _, _, _, _, _, _, _, _, _, _, _, _, _, _, _, _, _, _, _, _, _, _, _, _, _, _], []⟩ : Act) v
              refine wpOp_step rfl (fun K' hK' => ?_)
              go_simp
              exact hK' _ _ (hK _ _ (Below.refl _ _) (at_of rfl (rfl)))
            · obtain ⟨x, rfl⟩ := upd_of (show x 16 = .int .i64 0 from hd 16 _ (by simp) rfl)
              show wpOp Try.prog _ _ 17 K (⟨#[_, _, _, _, _, _, _, _, _, _, _, _, _, _, _, _, _, _, _, _, _, _, _, _, _, _, _, _, _, _, _, _, _, _, _, _, _, _, _, _, _, _, _, _, _, _, _, _, _, _, _, _, _, _, _, _, _, _, _, _, _, _, _, _, _, _, _, _, _, _, x 0, x 1, x 2, x 3, x 4, x 5, x 6, x 7, x 8, x 9, x 10, x 11, x 12, x 13, x 14, x 15, .int .i64 0, x 17, x 18, _, _, _, _, _, _, _, _, _, _, _, _, _, _, _, _, _, _, _, _, _, _, _, _, _, _, _, _, _, _, _, _, _, _, _, _, _, _, _, _, _, _, _, _, _, _, _, _, _, _, _, _, _, _, _, _, _, _, _, _, _, _, _, _, _, _, _, _, _, _, _, _, _, _, _, _, _, _, _, _, _, _, _, _, _, _, _, _, _, _, _, _, _, _, _, _, _, _, _, _, _, _, _, _, _, _, _, _, _, _, _, _, _, _, _, _, _, _, _, _, _, _, _, _, _, _, _, _, _, _, _, _, _, _, _, _, _, _, _, _, _, _, _, _, _, _, _, _, _, _, _, _, _, _, _, _, _, _, _, _, _], []⟩ : Act) v
              refine wpOp_step rfl (fun K' hK' => ?_)
              go_simp
              exact hK' _ _ (hK _ _ (Below.refl _ _) (at_of rfl (rfl)))
            · obtain ⟨x, rfl⟩ := upd_of (show x 2 = .int .i64 eL from hd 2 _ (by simp) rfl)
              obtain ⟨x, rfl⟩ := upd_of (show x 17 = .int .i64 0 from hd 17 _ (by simp) rfl)
              show wpOp Try.prog _ _ 18 K (⟨#[_, _, _, _, _, _, _, _, _, _, _, _, _, _, _, _, _, _, _, _, _, _, _, _, _, _, _, _, _, _, _, _, _, _, _, _, _, _, _, _, _, _, _, _, _, _, _, _, _, _, _, _, _, _, _, _, _, _, _, _, _, _, _, _, _, _, _, _, _, _, x 0, x 1, .int .i64 eL, x 3, x 4, x 5, x 6, x 7, x 8, x 9, x 10, x 11, x 12, x 13, x 14, x 15, x 16, .int .i64 0, x 18, _, _, _, _, _, _, _, _, _, _, _, _, _, _, _, _, _, _, _, _, _, _, _, _, _, _, _, _, _, _, _, _, _, _, _, _, _, _, _, _, _, _, _, _, _, _, _, _, _, _, _, _, _, _, _, _, _, _, _, _, _, _, _, _, _, _, _, _, _, _, _, _, _, _, _, _, _, _, _, _, _, _, _, _, _, _, _, _, _, _, _, _, _, _, _, _, _, _, _, _, _, _, _, _, _, _, _, _, _, _, _, _, _, _, _, _, _, _, _, _, _, _, _, _, _, _, _, _, _, _, _, _, _, _, _, _, _, _, _, _, _, _, _, _, _, _, _, _, _, _, _, _, _, _, _, _, _, _, _, _, _], []⟩ : Act) v
              refine wpOp_step rfl (fun K' hK' => ?_)
              go_simp
              exact hK' _ _ (hK _ _ (Below.refl _ _) (at_of rfl (rfl)))
          case fin8_0 =>
            rintro x v gv hd
            obtain ⟨x, rfl⟩ := upd_of (show x 18 = .int .i64 eL from hd 18 _ (by omega) rfl)
            clear hd
            show wpList Try.prog _ _ (List.drop 19 _) (⟨#[_, _, _, _, _, _, _, _, _, _, _, _, _, _, _, _, _, _, _, _, _, _, _, _, _, _, _, _, _, _, _, _, _, _, _, _, _, _, _, _, _, _, _, _, _, _, _, _, _, _, _, _, _, _, _, _, _, _, _, _, _, _, _, _, _, _, _, _, _, _, x 0, x 1, x 2, x 3, x 4, x 5, x 6, x 7, x 8, x 9, x 10, x 11, x 12, x 13, x 14, x 15, x 16, x 17, .int .i64 eL, _, _, _, _, _, _, _, _, _, _, _, _, _, _, _, _, _, _, _, _, _, _, _, _, _, _, _, _, _, _, _, _, _, _, _, _, _, _, _, _, _, _, _, _, _, _, _, _, _, _, _, _, _, _, _, _, _, _, _, _, _, _, _, _, _, _, _, _, _, _, _, _, _, _, _, _, _, _, _, _, _, _, _, _, _, _, _, _, _, _, _, _, _, _, _, _, _, _, _, _, _, _, _, _, _, _, _, _, _, _, _, _, _, _, _, _, _, _, _, _, _, _, _, _, _, _, _, _, _, _, _, _, _, _, _, _, _, _, _, _, _, _, _, _, _, _, _, _, _, _, _, _, _, _, _, _, _, _, _, _, _], []⟩ : Act) v
            simp only [List.drop_succ_cons, List.drop_zero]
            have hS := hS.keep gv
            have t1 := gv.keep t1
            have p2 := gv.keep p2
            have p3 := gv.keep p3
            clear gv t0 p0 p1 p4 p5
            go_upto_region 9 with fail
            refine (show (∀ z : Nat → Value, Code.wp Try.prog _ _ ⟨#[L 0, L 1, .pointer (some ⟨w.heap.size, 0, none⟩), .pointer (some ⟨(w.heap.size + 1), 0, none⟩), z 4, .pointer (some ⟨B5, 0, none⟩), .pointer (some ⟨B6, 0, none⟩), .int .i64 0, .int .i64 ((0 : Nat) : Int), .int .i64 eL, z 10, z 11, z 12, z 13, z 14, z 15, z 16, undef, undef, undef, L 20, L 21, L 22, L 23, L 24, L 25, L 26, L 27, L 28, L 29, L 30, L 31, L 32, L 33, L 34, L 35, L 36, L 37, L 38, L 39, L 40, L 41, L 42, L 43, L 44, L 45, L 46, L 47, L 48, L 49, L 50, L 51, L 52, L 53, L 54, L 55, L 56, L 57, L 58, L 59, L 60, L 61, L 62, L 63, L 64, L 65, z 66, z 67, z 68, z 69, z 70, z 71, z 72, z 73, z 74, z 75, z 76, z 77, z 78, z 79, z 80, z 81, z 82, z 83, z 84, z 85, z 86, z 87, z 88, z 89, z 90, z 91, z 92, z 93, z 94, z 95, z 96, z 97, z 98, z 99, z 100, z 101, z 102, z 103, z 104, z 105, z 106, z 107, z 108, z 109, z 110, z 111, z 112, z 113, z 114, z 115, z 116, z 117, z 118, z 119, z 120, z 121, z 122, z 123, z 124, z 125, z 126, z 127, z 128, z 129, z 130, z 131, z 132, z 133, z 134, z 135, z 136, z 137, z 138, z 139, z 140, z 141, z 142, z 143, z 144, z 145, z 146, z 147, z 148, z 149, z 150, z 151, z 152, z 153, z 154, z 155, z 156, z 157, z 158, z 159, z 160, z 161, z 162, z 163, z 164, z 165, z 166, z 167, z 168, z 169, z 170, z 171, z 172, z 173, z 174, z 175, z 176, z 177, z 178, z 179, z 180, z 181, z 182, z 183, z 184, z 185, z 186, z 187, z 188, z 189, z 190, z 191, z 192, z 193, z 194, z 195, z 196, z 197, z 198, z 199, z 200, z 201, z 202, z 203, z 204, z 205, z 206, z 207, z 208, undef, undef, undef, undef, undef, undef, undef, undef, undef, undef, undef, undef, undef, undef, undef, undef, undef, undef, undef, undef, undef, undef, undef, undef, undef, undef, undef, undef, undef, undef, undef, undef, undef, undef, undef, undef, undef, undef, undef, undef, undef], []⟩ _) → _ from fun h => h ((fun l : List Value => fun i => l.getD i undef) [undef, undef, undef, undef, _, undef, undef, undef, undef, undef, _, _, _, _, _, _, _, undef, undef, undef, undef, undef, undef, undef, undef, undef, undef, undef, undef, undef, undef, undef, undef, undef, undef, undef, undef, undef, undef, undef, undef, undef, undef, undef, undef, undef, undef, undef, undef, undef, undef, undef, undef, undef, undef, undef, undef, undef, undef, undef, undef, undef, undef, undef, undef, undef, _, _, _, _, _, _, _, _, _, _, _, _, _, _, _, _, _, _, _, _, _, _, _, _, _, _, _, _, _, _, _, _, _, _, _, _, _, _, _, _, _, _, _, _, _, _, _, _, _, _, _, _, _, _, _, _, _, _, _, _, _, _, _, _, _, _, _, _, _, _, _, _, _, _, _, _, _, _, _, _, _, _, _, _, _, _, _, _, _, _, _, _, _, _, _, _, _, _, _, _, _, _, _, _, _, _, _, _, _, _, _, _, _, _, _, _, _, _, _, _, _, _, _, _, _, _, _, _, _, _, _, _, _, _, _, _, _, _, _, _, _, _, _, undef, undef, undef, undef, undef, undef, undef, undef, undef, undef, undef, undef, undef, undef, undef, undef, undef, undef, undef, undef, undef, undef, undef, undef, undef, undef, undef, undef, undef, undef, undef, undef, undef, undef, undef, undef, undef, undef, undef, undef, undef])) ?_
            intro z
            dsimp only
            refine wp_region_facts 19 [(1, 0), (2, 1), (4, 3), (5, 4), (6, 5), (8, 6), (8, 7), (10, 9), (11, 10), (13, 12), (14, 13), (15, 11), (15, 14), (16, 8), (16, 15), (17, 16), (18, 2), (18, 17)] (fun x => ⟨#[L 0, L 1, .pointer (some ⟨w.heap.size, 0, none⟩), .pointer (some ⟨(w.heap.size + 1), 0, none⟩), z 4, .pointer (some ⟨B5, 0, none⟩), .pointer (some ⟨B6, 0, none⟩), .int .i64 0, .int .i64 ((0 : Nat) : Int), .int .i64 eL, z 10, z 11, z 12, z 13, z 14, z 15, z 16, undef, undef, undef, L 20, L 21, L 22, L 23, L 24, L 25, L 26, L 27, L 28, L 29, L 30, L 31, L 32, L 33, L 34, L 35, L 36, L 37, L 38, L 39, L 40, L 41, L 42, L 43, L 44, L 45, L 46, L 47, L 48, L 49, L 50, L 51, L 52, L 53, L 54, L 55, L 56, L 57, L 58, L 59, L 60, L 61, L 62, L 63, L 64, L 65, z 66, z 67, z 68, z 69, z 70, z 71, z 72, z 73, z 74, z 75, z 76, z 77, z 78, z 79, z 80, z 81, z 82, z 83, z 84, z 85, z 86, z 87, z 88, x 0, x 1, x 2, x 3, x 4, x 5, x 6, x 7, x 8, x 9, x 10, x 11, x 12, x 13, x 14, x 15, x 16, x 17, x 18, z 108, z 109, z 110, z 111, z 112, z 113, z 114, z 115, z 116, z 117, z 118, z 119, z 120, z 121, z 122, z 123, z 124, z 125, z 126, z 127, z 128, z 129, z 130, z 131, z 132, z 133, z 134, z 135, z 136, z 137, z 138, z 139, z 140, z 141, z 142, z 143, z 144, z 145, z 146, z 147, z 148, z 149, z 150, z 151, z 152, z 153, z 154, z 155, z 156, z 157, z 158, z 159, z 160, z 161, z 162, z 163, z 164, z 165, z 166, z 167, z 168, z 169, z 170, z 171, z 172, z 173, z 174, z 175, z 176, z 177, z 178, z 179, z 180, z 181, z 182, z 183, z 184, z 185, z 186, z 187, z 188, z 189, z 190, z 191, z 192, z 193, z 194, z 195, z 196, z 197, z 198, z 199, z 200, z 201, z 202, z 203, z 204, z 205, z 206, z 207, z 208, undef, undef, undef, undef, undef, undef, undef, undef, undef, undef, undef, undef, undef, undef, undef, undef, undef, undef, undef, undef, undef, undef, undef, undef, undef, undef, undef, undef, undef, undef, undef, undef, undef, undef, undef, undef, undef, undef, undef, undef, undef], []⟩) (fun i => z (i + 89)) [fun _ x => x = .pointer (some ⟨B5, 2, none⟩), fun _ x => x = .pointer (some ⟨B5, 2, none⟩), fun _ x => x = .int .i64 cL, fun _ x => x = .pointer (some ⟨(w.heap.size + 1), 1, none⟩), fun _ x => x = .int .u8 y1, fun _ x => x = .int .i64 y1, fun _ x => x = .agg #[.int .i64 0, .int .i64 255, .int .i64 y1], fun _ x => x = .int .i64 ((0 : Nat) : Int), fun _ x => x = .int .i64 0, fun _ x => x = .pointer (some ⟨B5, 2, none⟩), fun _ x => x = .pointer (some ⟨B5, 3, none⟩), fun _ x => x = .int .i64 cH, fun _ x => x = .pointer (some ⟨B5, 2, none⟩), fun _ x => x = .pointer (some ⟨B5, 2, none⟩), fun _ x => x = .int .i64 cL, fun _ x => x = .int .i64 (cH - cL), fun _ x => x = .int .i64 0, fun _ x => x = .int .i64 0, fun _ x => x = .int .i64 cL] (by rfl) (by kernel_rfl) (by kernel_rfl) (by kernel_rfl) (stays_cons (Stays.eq _) (stays_cons (Stays.eq _) (stays_cons (Stays.eq _) (stays_cons (Stays.eq _) (stays_cons (Stays.eq _) (stays_cons (Stays.eq _) (stays_cons (Stays.eq _) (stays_cons (Stays.eq _) (stays_cons (Stays.eq _) (stays_cons (Stays.eq _) (stays_cons (Stays.eq _) (stays_cons (Stays.eq _) (stays_cons (Stays.eq _) (stays_cons (Stays.eq _) (stays_cons (Stays.eq _) (stays_cons (Stays.eq _) (stays_cons (Stays.eq _) (stays_cons (Stays.eq _) (stays_cons (Stays.eq _) stays_nil))))))))))))))))))) ?step9_0 ?fin9_0
            case step9_0 =>
              rintro i hi x v gv hd K hK
              have hi8 : i = 0 ∨ i = 1 ∨ i = 2 ∨ i = 3 ∨ i = 4 ∨ i = 5 ∨ i = 6 ∨ i = 7 ∨ i = 8 ∨ i = 9 ∨ i = 10 ∨ i = 11 ∨ i = 12 ∨ i = 13 ∨ i = 14 ∨ i = 15 ∨ i = 16 ∨ i = 17 ∨ i = 18 := by omega
              rcases hi8 with rfl | rfl | rfl | rfl | rfl | rfl | rfl | rfl | rfl | rfl | rfl | rfl | rfl | rfl | rfl | rfl | rfl | rfl | rfl
              · show wpOp Try.prog _ _ 0 K (⟨#[_, _, _, _, _, _, _, _, _, _, _, _, _, _, _, _, _, _, _, _, _, _, _, _, _, _, _, _, _, _, _, _, _, _, _, _, _, _, _, _, _, _, _, _, _, _, _, _, _, _, _, _, _, _, _, _, _, _, _, _, _, _, _, _, _, _, _, _, _, _, _, _, _, _, _, _, _, _, _, _, _, _, _, _, _, _, _, _, _, x 0, x 1, x 2, x 3, x 4, x 5, x 6, x 7, x 8, x 9, x 10, x 11, x 12, x 13, x 14, x 15, x 16, x 17, x 18, _, _, _, _, _, _, _, _, _, _, _, _, _, _, _, _, _, _, _, _, _, _, _, _, _, _, _, _, _, _, _, _, _, _, _, _, _, _, _, _, _, _, _, _, _, _, _, _, _, _, _, _, _, _, _, _, _, _, _, _, _, _, _, _, _, _, _, _, _, _, _, _, _, _, _, _, _, _, _, _, _, _, _, _, _, _, _, _, _, _, _, _, _, _, _, _, _, _, _, _, _, _, _, _, _, _, _, _, _, _, _, _, _, _, _, _, _, _, _, _, _, _, _, _, _, _, _, _, _, _, _, _, _, _, _, _, _, _, _, _, _, _], []⟩ : Act) v
                refine wpOp_step rfl (fun K' hK' => ?_)
                go_simp
                exact hK' _ _ (hK _ _ (Below.refl _ _) (at_of rfl (rfl)))
              · obtain ⟨x, rfl⟩ := upd_of (show x 0 = .pointer (some ⟨B5, 2, none⟩) from hd 0 _ (by simp) rfl)
                show wpOp Try.prog _ _ 1 K (⟨#[_, _, _, _, _, _, _, _, _, _, _, _, _, _, _, _, _, _, _, _, _, _, _, _, _, _, _, _, _, _, _, _, _, _, _, _, _, _, _, _, _, _, _, _, _, _, _, _, _, _, _, _, _, _, _, _, _, _, _, _, _, _, _, _, _, _, _, _, _, _, _, _, _, _, _, _, _, _, _, _, _, _, _, _, _, _, _, _, _, .pointer (some ⟨B5, 2, none⟩), x 1, x 2, x 3, x 4, x 5, x 6, x 7, x 8, x 9, x 10, x 11, x 12, x 13, x 14, x 15, x 16, x 17, x 18, _, _, _, _, _, _, _, _, _, _, _, _, _, _, _, _, _, _, _, _, _, _, _, _, _, _, _, _, _, _, _, _, _, _, _, _, _, _, _, _, _, _, _, _, _, _, _, _, _, _, _, _, _, _, _, _, _, _, _, _, _, _, _, _, _, _, _, _, _, _, _, _, _, _, _, _, _, _, _, _, _, _, _, _, _, _, _, _, _, _, _, _, _, _, _, _, _, _, _, _, _, _, _, _, _, _, _, _, _, _, _, _, _, _, _, _, _, _, _, _, _, _, _, _, _, _, _, _, _, _, _, _, _, _, _, _, _, _, _, _, _, _], []⟩ : Act) v
                refine wpOp_step rfl (fun K' hK' => ?_)
                go_simp
                exact hK' _ _ (hK _ _ (Below.refl _ _) (at_of rfl (rfl)))
              · obtain ⟨x, rfl⟩ := upd_of (show x 1 = .pointer (some ⟨B5, 2, none⟩) from hd 1 _ (by simp) rfl)
                show wpOp Try.prog _ _ 2 K (⟨#[_, _, _, _, _, _, _, _, _, _, _, _, _, _, _, _, _, _, _, _, _, _, _, _, _, _, _, _, _, _, _, _, _, _, _, _, _, _, _, _, _, _, _, _, _, _, _, _, _, _, _, _, _, _, _, _, _, _, _, _, _, _, _, _, _, _, _, _, _, _, _, _, _, _, _, _, _, _, _, _, _, _, _, _, _, _, _, _, _, x 0, .pointer (some ⟨B5, 2, none⟩), x 2, x 3, x 4, x 5, x 6, x 7, x 8, x 9, x 10, x 11, x 12, x 13, x 14, x 15, x 16, x 17, x 18, _, _, _, _, _, _, _, _, _, _, _, _, _, _, _, _, _, _, _, _, _, _, _, _, _, _, _, _, _, _, _, _, _, _, _, _, _, _, _, _, _, _, _, _, _, _, _, _, _, _, _, _, _, _, _, _, _, _, _, _, _, _, _, _, _, _, _, _, _, _, _, _, _, _, _, _, _, _, _, _, _, _, _, _, _, _, _, _, _, _, _, _, _, _, _, _, _, _, _, _, _, _, _, _, _, _, _, _, _, _, _, _, _, _, _, _, _, _, _, _, _, _, _, _, _, _, _, _, _, _, _, _, _, _, _, _, _, _, _, _, _, _], []⟩ : Act) v
                refine wpOp_step rfl (fun K' hK' => ?_)
                have q := gv.keep p2
                go_simp
                exact hK' _ _ (hK _ _ (Below.refl _ _) (at_of rfl (rfl)))
              · show wpOp Try.prog _ _ 3 K (⟨#[_, _, _, _, _, _, _, _, _, _, _, _, _, _, _, _, _, _, _, _, _, _, _, _, _, _, _, _, _, _, _, _, _, _, _, _, _, _, _, _, _, _, _, _, _, _, _, _, _, _, _, _, _, _, _, _, _, _, _, _, _, _, _, _, _, _, _, _, _, _, _, _, _, _, _, _, _, _, _, _, _, _, _, _, _, _, _, _, _, x 0, x 1, x 2, x 3, x 4, x 5, x 6, x 7, x 8, x 9, x 10, x 11, x 12, x 13, x 14, x 15, x 16, x 17, x 18, _, _, _, _, _, _, _, _, _, _, _, _, _, _, _, _, _, _, _, _, _, _, _, _, _, _, _, _, _, _, _, _, _, _, _, _, _, _, _, _, _, _, _, _, _, _, _, _, _, _, _, _, _, _, _, _, _, _, _, _, _, _, _, _, _, _, _, _, _, _, _, _, _, _, _, _, _, _, _, _, _, _, _, _, _, _, _, _, _, _, _, _, _, _, _, _, _, _, _, _, _, _, _, _, _, _, _, _, _, _, _, _, _, _, _, _, _, _, _, _, _, _, _, _, _, _, _, _, _, _, _, _, _, _, _, _, _, _, _, _, _, _], []⟩ : Act) v
                refine wpOp_step rfl (fun K' hK' => ?_)
                go_simp
                exact hK' _ _ (hK _ _ (Below.refl _ _) (at_of rfl (rfl)))
              · obtain ⟨x, rfl⟩ := upd_of (show x 3 = .pointer (some ⟨(w.heap.size + 1), 1, none⟩) from hd 3 _ (by simp) rfl)
                show wpOp Try.prog _ _ 4 K (⟨#[_, _, _, _, _, _, _, _, _, _, _, _, _, _, _, _, _, _, _, _, _, _, _, _, _, _, _, _, _, _, _, _, _, _, _, _, _, _, _, _, _, _, _, _, _, _, _, _, _, _, _, _, _, _, _, _, _, _, _, _, _, _, _, _, _, _, _, _, _, _, _, _, _, _, _, _, _, _, _, _, _, _, _, _, _, _, _, _, _, x 0, x 1, x 2, .pointer (some ⟨(w.heap.size + 1), 1, none⟩), x 4, x 5, x 6, x 7, x 8, x 9, x 10, x 11, x 12, x 13, x 14, x 15, x 16, x 17, x 18, _, _, _, _, _, _, _, _, _, _, _, _, _, _, _, _, _, _, _, _, _, _, _, _, _, _, _, _, _, _, _, _, _, _, _, _, _, _, _, _, _, _, _, _, _, _, _, _, _, _, _, _, _, _, _, _, _, _, _, _, _, _, _, _, _, _, _, _, _, _, _, _, _, _, _, _, _, _, _, _, _, _, _, _, _, _, _, _, _, _, _, _, _, _, _, _, _, _, _, _, _, _, _, _, _, _, _, _, _, _, _, _, _, _, _, _, _, _, _, _, _, _, _, _, _, _, _, _, _, _, _, _, _, _, _, _, _, _, _, _, _, _], []⟩ : Act) v
                refine wpOp_step rfl (fun K' hK' => ?_)
                have q := gv.keep t1
                go_simp
                exact hK' _ _ (hK _ _ (Below.refl _ _) (at_of rfl (rfl)))
              · obtain ⟨x, rfl⟩ := upd_of (show x 4 = .int .u8 y1 from hd 4 _ (by simp) rfl)
                show wpOp Try.prog _ _ 5 K (⟨#[_, _, _, _, _, _, _, _, _, _, _, _, _, _, _, _, _, _, _, _, _, _, _, _, _, _, _, _, _, _, _, _, _, _, _, _, _, _, _, _, _, _, _, _, _, _, _, _, _, _, _, _, _, _, _, _, _, _, _, _, _, _, _, _, _, _, _, _, _, _, _, _, _, _, _, _, _, _, _, _, _, _, _, _, _, _, _, _, _, x 0, x 1, x 2, x 3, .int .u8 y1, x 5, x 6, x 7, x 8, x 9, x 10, x 11, x 12, x 13, x 14, x 15, x 16, x 17, x 18, _, _, _, _, _, _, _, _, _, _, _, _, _, _, _, _, _, _, _, _, _, _, _, _, _, _, _, _, _, _, _, _, _, _, _, _, _, _, _, _, _, _, _, _, _, _, _, _, _, _, _, _, _, _, _, _, _, _, _, _, _, _, _, _, _, _, _, _, _, _, _, _, _, _, _, _, _, _, _, _, _, _, _, _, _, _, _, _, _, _, _, _, _, _, _, _, _, _, _, _, _, _, _, _, _, _, _, _, _, _, _, _, _, _, _, _, _, _, _, _, _, _, _, _, _, _, _, _, _, _, _, _, _, _, _, _, _, _, _, _, _, _], []⟩ : Act) v
                refine wpOp_step rfl (fun K' hK' => ?_)
                go_simp
                exact hK' _ _ (hK _ _ (Below.refl _ _) (at_of rfl (rfl)))
              · obtain ⟨x, rfl⟩ := upd_of (show x 5 = .int .i64 y1 from hd 5 _ (by simp) rfl)
                show wpOp Try.prog _ _ 6 K (⟨#[_, _, _, _, _, _, _, _, _, _, _, _, _, _, _, _, _, _, _, _, _, _, _, _, _, _, _, _, _, _, _, _, _, _, _, _, _, _, _, _, _, _, _, _, _, _, _, _, _, _, _, _, _, _, _, _, _, _, _, _, _, _, _, _, _, _, _, _, _, _, _, _, _, _, _, _, _, _, _, _, _, _, _, _, _, _, _, _, _, x 0, x 1, x 2, x 3, x 4, .int .i64 y1, x 6, x 7, x 8, x 9, x 10, x 11, x 12, x 13, x 14, x 15, x 16, x 17, x 18, _, _, _, _, _, _, _, _, _, _, _, _, _, _, _, _, _, _, _, _, _, _, _, _, _, _, _, _, _, _, _, _, _, _, _, _, _, _, _, _, _, _, _, _, _, _, _, _, _, _, _, _, _, _, _, _, _, _, _, _, _, _, _, _, _, _, _, _, _, _, _, _, _, _, _, _, _, _, _, _, _, _, _, _, _, _, _, _, _, _, _, _, _, _, _, _, _, _, _, _, _, _, _, _, _, _, _, _, _, _, _, _, _, _, _, _, _, _, _, _, _, _, _, _, _, _, _, _, _, _, _, _, _, _, _, _, _, _, _, _, _, _], []⟩ : Act) v
                refine wpOp_step rfl (fun K' hK' => ?_)
                go_simp
                exact hK' _ _ (hK _ _ (Below.refl _ _) (at_of rfl (rfl)))
              · show wpOp Try.prog _ _ 7 K (⟨#[_, _, _, _, _, _, _, _, _, _, _, _, _, _, _, _, _, _, _, _, _, _, _, _, _, _, _, _, _, _, _, _, _, _, _, _, _, _, _, _, _, _, _, _, _, _, _, _, _, _, _, _, _, _, _, _, _, _, _, _, _, _, _, _, _, _, _, _, _, _, _, _, _, _, _, _, _, _, _, _, _, _, _, _, _, _, _, _, _, x 0, x 1, x 2, x 3, x 4, x 5, x 6, x 7, x 8, x 9, x 10, x 11, x 12, x 13, x 14, x 15, x 16, x 17, x 18, _, _, _, _, _, _, _, _, _, _, _, _, _, _, _, _, _, _, _, _, _, _, _, _, _, _, _, _, _, _, _, _, _, _, _, _, _, _, _, _, _, _, _, _, _, _, _, _, _, _, _, _, _, _, _, _, _, _, _, _, _, _, _, _, _, _, _, _, _, _, _, _, _, _, _, _, _, _, _, _, _, _, _, _, _, _, _, _, _, _, _, _, _, _, _, _, _, _, _, _, _, _, _, _, _, _, _, _, _, _, _, _, _, _, _, _, _, _, _, _, _, _, _, _, _, _, _, _, _, _, _, _, _, _, _, _, _, _, _, _, _, _], []⟩ : Act) v
                refine wpOp_step rfl (fun K' hK' => ?_)
                go_simp
                exact hK' _ _ (hK _ _ (Below.refl _ _) (at_of rfl (rfl)))
              · obtain ⟨x, rfl⟩ := upd_of (show x 6 = .agg #[.int .i64 0, .int .i64 255, .int .i64 y1] from hd 6 _ (by simp) rfl)
                obtain ⟨x, rfl⟩ := upd_of (show x 7 = .int .i64 ((0 : Nat) : Int) from hd 7 _ (by simp) rfl)
                show wpOp Try.prog _ _ 8 K (⟨#[_, _, _, _, _, _, _, _, _, _, _, _, _, _, _, _, _, _, _, _, _, _, _, _, _, _, _, _, _, _, _, _, _, _, _, _, _, _, _, _, _, _, _, _, _, _, _, _, _, _, _, _, _, _, _, _, _, _, _, _, _, _, _, _, _, _, _, _, _, _, _, _, _, _, _, _, _, _, _, _, _, _, _, _, _, _, _, _, _, x 0, x 1, x 2, x 3, x 4, x 5, .agg #[.int .i64 0, .int .i64 255, .int .i64 y1], .int .i64 ((0 : Nat) : Int), x 8, x 9, x 10, x 11, x 12, x 13, x 14, x 15, x 16, x 17, x 18, _, _, _, _, _, _, _, _, _, _, _, _, _, _, _, _, _, _, _, _, _, _, _, _, _, _, _, _, _, _, _, _, _, _, _, _, _, _, _, _, _, _, _, _, _, _, _, _, _, _, _, _, _, _, _, _, _, _, _, _, _, _, _, _, _, _, _, _, _, _, _, _, _, _, _, _, _, _, _, _, _, _, _, _, _, _, _, _, _, _, _, _, _, _, _, _, _, _, _, _, _, _, _, _, _, _, _, _, _, _, _, _, _, _, _, _, _, _, _, _, _, _, _, _, _, _, _, _, _, _, _, _, _, _, _, _, _, _, _, _, _, _], []⟩ : Act) v
                refine wpOp_step rfl (fun K' hK' => ?_)
                go_simp
                exact hK' _ _ (hK _ _ (Below.refl _ _) (at_of rfl (rfl)))
              · show wpOp Try.prog _ _ 9 K (⟨#[_, _, _, _, _, _, _, _, _, _, _, _, _, _, _, _, _, _, _, _, _, _, _, _, _, _, _, _, _, _, _, _, _, _, _, _, _, _, _, _, _, _, _, _, _, _, _, _, _, _, _, _, _, _, _, _, _, _, _, _, _, _, _, _, _, _, _, _, _, _, _, _, _, _, _, _, _, _, _, _, _, _, _, _, _, _, _, _, _, x 0, x 1, x 2, x 3, x 4, x 5, x 6, x 7, x 8, x 9, x 10, x 11, x 12, x 13, x 14, x 15, x 16, x 17, x 18, _, _, _, _, _, _, _, _, _, _, _, _, _, _, _, _, _, _, _, _, _, _, _, _, _, _, _, _, _, _, _, _, _, _, _, _, _, _, _, _, _, _, _, _, _, _, _, _, _, _, _, _, _, _, _, _, _, _, _, _, _, _, _, _, _, _, _, _, _, _, _, _, _, _, _, _, _, _, _, _, _, _, _, _, _, _, _, _, _, _, _, _, _, _, _, _, _, _, _, _, _, _, _, _, _, _, _, _, _, _, _, _, _, _, _, _, _, _, _, _, _, _, _, _, _, _, _, _, _, _, _, _, _, _, _, _, _, _, _, _, _, _], []⟩ : Act) v
                refine wpOp_step rfl (fun K' hK' => ?_)
                go_simp
                exact hK' _ _ (hK _ _ (Below.refl _ _) (at_of rfl (rfl)))
              · obtain ⟨x, rfl⟩ := upd_of (show x 9 = .pointer (some ⟨B5, 2, none⟩) from hd 9 _ (by simp) rfl)
                show wpOp Try.prog _ _ 10 K (⟨#[_, _, _, _, _, _, _, _, _, _, _, _, _, _, _, _, _, _, _, _, _, _, _, _, _, _, _, _, _, _, _, _, _, _, _, _, _, _, _, _, _, _, _, _, _, _, _, _, _, _, _, _, _, _, _, _, _, _, _, _, _, _, _, _, _, _, _, _, _, _, _, _, _, _, _, _, _, _, _, _, _, _, _, _, _, _, _, _, _, x 0, x 1, x 2, x 3, x 4, x 5, x 6, x 7, x 8, .pointer (some ⟨B5, 2, none⟩), x 10, x 11, x 12, x 13, x 14, x 15, x 16, x 17, x 18, _, _, _, _, _, _, _, _, _, _, _, _, _, _, _, _, _, _, _, _, _, _, _, _, _, _, _, _, _, _, _, _, _, _, _, _, _, _, _, _, _, _, _, _, _, _, _, _, _, _, _, _, _, _, _, _, _, _, _, _, _, _, _, _, _, _, _, _, _, _, _, _, _, _, _, _, _, _, _, _, _, _, _, _, _, _, _, _, _, _, _, _, _, _, _, _, _, _, _, _, _, _, _, _, _, _, _, _, _, _, _, _, _, _, _, _, _, _, _, _, _, _, _, _, _, _, _, _, _, _, _, _, _, _, _, _, _, _, _, _, _, _], []⟩ : Act) v
                refine wpOp_step rfl (fun K' hK' => ?_)
                go_simp
                exact hK' _ _ (hK _ _ (Below.refl _ _) (at_of rfl (rfl)))
              · obtain ⟨x, rfl⟩ := upd_of (show x 10 = .pointer (some ⟨B5, 3, none⟩) from hd 10 _ (by simp) rfl)
                show wpOp Try.prog _ _ 11 K (⟨#[_, _, _, _, _, _, _, _, _, _, _, _, _, _, _, _, _, _, _, _, _, _, _, _, _, _, _, _, _, _, _, _, _, _, _, _, _, _, _, _, _, _, _, _, _, _, _, _, _, _, _, _, _, _, _, _, _, _, _, _, _, _, _, _, _, _, _, _, _, _, _, _, _, _, _, _, _, _, _, _, _, _, _, _, _, _, _, _, _, x 0, x 1, x 2, x 3, x 4, x 5, x 6, x 7, x 8, x 9, .pointer (some ⟨B5, 3, none⟩), x 11, x 12, x 13, x 14, x 15, x 16, x 17, x 18, _, _, _, _, _, _, _, _, _, _, _, _, _, _, _, _, _, _, _, _, _, _, _, _, _, _, _, _, _, _, _, _, _, _, _, _, _, _, _, _, _, _, _, _, _, _, _, _, _, _, _, _, _, _, _, _, _, _, _, _, _, _, _, _, _, _, _, _, _, _, _, _, _, _, _, _, _, _, _, _, _, _, _, _, _, _, _, _, _, _, _, _, _, _, _, _, _, _, _, _, _, _, _, _, _, _, _, _, _, _, _, _, _, _, _, _, _, _, _, _, _, _, _, _, _, _, _, _, _, _, _, _, _, _, _, _, _, _, _, _, _, _], []⟩ : Act) v
                refine wpOp_step rfl (fun K' hK' => ?_)
                have q := gv.keep p3
                go_simp
                exact hK' _ _ (hK _ _ (Below.refl _ _) (at_of rfl (rfl)))
              · show wpOp Try.prog _ _ 12 K (⟨#[_, _, _, _, _, _, _, _, _, _, _, _, _, _, _, _, _, _, _, _, _, _, _, _, _, _, _, _, _, _, _, _, _, _, _, _, _, _, _, _, _, _, _, _, _, _, _, _, _, _, _, _, _, _, _, _, _, _, _, _, _, _, _, _, _, _, _, _, _, _, _, _, _, _, _, _, _, _, _, _, _, _, _, _, _, _, _, _, _, x 0, x 1, x 2, x 3, x 4, x 5, x 6, x 7, x 8, x 9, x 10, x 11, x 12, x 13, x 14, x 15, x 16, x 17, x 18, _, _, _, _, _, _, _, _, _, _, _, _, _, _, _, _, _, _, _, _, _, _, _, _, _, _, _, _, _, _, _, _, _, _, _, _, _, _, _, _, _, _, _, _, _, _, _, _, _, _, _, _, _, _, _, _, _, _, _, _, _, _, _, _, _, _, _, _, _, _, _, _, _, _, _, _, _, _, _, _, _, _, _, _, _, _, _, _, _, _, _, _, _, _, _, _, _, _, _, _, _, _, _, _, _, _, _, _, _, _, _, _, _, _, _, _, _, _, _, _, _, _, _, _, _, _, _, _, _, _, _, _, _, _, _, _, _, _, _, _, _, _], []⟩ : Act) v
                refine wpOp_step rfl (fun K' hK' => ?_)
                go_simp
                exact hK' _ _ (hK _ _ (Below.refl _ _) (at_of rfl (rfl)))
              · obtain ⟨x, rfl⟩ := upd_of (show x 12 = .pointer (some ⟨B5, 2, none⟩) from hd 12 _ (by simp) rfl)
                show wpOp Try.prog _ _ 13 K (⟨#[_, _, _, _, _, _, _, _, _, _, _, _, _, _, _, _, _, _, _, _, _, _, _, _, _, _, _, _, _, _, _, _, _, _, _, _, _, _, _, _, _, _, _, _, _, _, _, _, _, _, _, _, _, _, _, _, _, _, _, _, _, _, _, _, _, _, _, _, _, _, _, _, _, _, _, _, _, _, _, _, _, _, _, _, _, _, _, _, _, x 0, x 1, x 2, x 3, x 4, x 5, x 6, x 7, x 8, x 9, x 10, x 11, .pointer (some ⟨B5, 2, none⟩), x 13, x 14, x 15, x 16, x 17, x 18, _, _, _, _, _, _, _, _, _, _, _, _, _, _, _, _, _, _, _, _, _, _, _, _, _, _, _, _, _, _, _, _, _, _, _, _, _, _, _, _, _, _, _, _, _, _, _, _, _, _, _, _, _, _, _, _, _, _, _, _, _, _, _, _, _, _, _, _, _, _, _, _, _, _, _, _, _, _, _, _, _, _, _, _, _, _, _, _, _, _, _, _, _, _, _, _, _, _, _, _, _, _, _, _, _, _, _, _, _, _, _, _, _, _, _, _, _, _, _, _, _, _, _, _, _, _, _, _, _, _, _, _, _, _, _, _, _, _, _, _, _, _], []⟩ : Act) v
                refine wpOp_step rfl (fun K' hK' => ?_)
                go_simp
                exact hK' _ _ (hK _ _ (Below.refl _ _) (at_of rfl (rfl)))
              · obtain ⟨x, rfl⟩ := upd_of (show x 13 = .pointer (some ⟨B5, 2, none⟩) from hd 13 _ (by simp) rfl)
                show wpOp Try.prog _ _ 14 K (⟨#[_, _, _, _, _, _, _, _, _, _, _, _, _, _, _, _, _, _, _, _, _, _, _, _, _, _, _, _, _, _, _, _, _, _, _, _, _, _, _, _, _, _, _, _, _, _, _, _, _, _, _, _, _, _, _, _, _, _, _, _, _, _, _, _, _, _, _, _, _, _, _, _, _, _, _, _, _, _, _, _, _, _, _, _, _, _, _, _, _, x 0, x 1, x 2, x 3, x 4, x 5, x 6, x 7, x 8, x 9, x 10, x 11, x 12, .pointer (some ⟨B5, 2, none⟩), x 14, x 15, x 16, x 17, x 18, _, _, _, _, _, _, _, _, _, _, _, _, _, _, _, _, _, _, _, _, _, _, _, _, _, _, _, _, _, _, _, _, _, _, _, _, _, _, _, _, _, _, _, _, _, _, _, _, _, _, _, _, _, _, _, _, _, _, _, _, _, _, _, _, _, _, _, _, _, _, _, _, _, _, _, _, _, _, _, _, _, _, _, _, _, _, _, _, _, _, _, _, _, _, _, _, _, _, _, _, _, _, _, _, _, _, _, _, _, _, _, _, _, _, _, _, _, _, _, _, _, _, _, _, _, _, _, _, _, _, _, _, _, _, _, _, _, _, _, _, _, _], []⟩ : Act) v
                refine wpOp_step rfl (fun K' hK' => ?_)
                have q := gv.keep p2
                go_simp
                exact hK' _ _ (hK _ _ (Below.refl _ _) (at_of rfl (rfl)))
              · obtain ⟨x, rfl⟩ := upd_of (show x 11 = .int .i64 cH from hd 11 _ (by simp) rfl)
                obtain ⟨x, rfl⟩ := upd_of (show x 14 = .int .i64 cL from hd 14 _ (by simp) rfl)
                show wpOp Try.prog _ _ 15 K (⟨#[_, _, _, _, _, _, _, _, _, _, _, _, _, _, _, _, _, _, _, _, _, _, _, _, _, _, _, _, _, _, _, _, _, _, _, _, _, _, _, _, _, _, _, _, _, _, _, _, _, _, _, _, _, _, _, _, _, _, _, _, _, _, _, _, _, _, _, _, _, _, _, _, _, _, _, _, _, _, _, _, _, _, _, _, _, _, _, _, _, x 0, x 1, x 2, x 3, x 4, x 5, x 6, x 7, x 8, x 9, x 10, .int .i64 cH, x 12, x 13, .int .i64 cL, x 15, x 16, x 17, x 18, _, _, _, _, _, _, _, _, _, _, _, _, _, _, _, _, _, _, _, _, _, _, _, _, _, _, _, _, _, _, _, _, _, _, _, _, _, _, _, _, _, _, _, _, _, _, _, _, _, _, _, _, _, _, _, _, _, _, _, _, _, _, _, _, _, _, _, _, _, _, _, _, _, _, _, _, _, _, _, _, _, _, _, _, _, _, _, _, _, _, _, _, _, _, _, _, _, _, _, _, _, _, _, _, _, _, _, _, _, _, _, _, _, _, _, _, _, _, _, _, _, _, _, _, _, _, _, _, _, _, _, _, _, _, _, _, _, _, _, _, _, _], []⟩ : Act) v
                refine wpOp_step rfl (fun K' hK' => ?_)
                go_simp
                exact hK' _ _ (hK _ _ (Below.refl _ _) (at_of rfl (rfl)))
              · obtain ⟨x, rfl⟩ := upd_of (show x 8 = .int .i64 0 from hd 8 _ (by simp) rfl)
                obtain ⟨x, rfl⟩ := upd_of (show x 15 = .int .i64 (cH - cL) from hd 15 _ (by simp) rfl)
                show wpOp Try.prog _ _ 16 K (⟨#[_, _, _, _, _, _, _, _, _, _, _, _, _, _, _, _, _, _, _, _, _, _, _, _, _, _, _, _, _, _, _, _, _, _, _, _, _, _, _, _, _, _, _, _, _, _, _, _, _, _, _, _, _, _, _, _, _, _, _, _, _, _, _, _, _, _, _, _, _, _, _, _, _, _, _, _, _, _, _, _, _, _, _, _, _, _, _, _, _, x 0, x 1, x 2, x 3, x 4, x 5, x 6, x 7, .int .i64 0, x 9, x 10, x 11, x 12, x 13, x 14, .int .i64 (cH - cL), x 16, x 17, x 18, _, _, _, _, _, _, _, _, _, _, _, _, _, _, _, _, _, _, _, _, _, _, _, _, _, _, _, _, _, _, _, _, _, _, _, _, _, _, _, _, _, _, _, _, _, _, _, _, _, _, _, _, _, _, _, _, _, _, _, _, _, _, _, _, _, _, _, _, _, _, _, _, _, _, _, _, _, _, _, _, _, _, _, _, _, _, _, _, _, _, _, _, _, _, _, _, _, _, _, _, _, _, _, _, _, _, _, _, _, _, _, _, _, _, _, _, _, _, _, _, _, _, _, _, _, _, _, _, _, _, _, _, _, _, _, _, _, _, _, _, _, _], []⟩ : Act) v
                refine wpOp_step rfl (fun K' hK' => ?_)
                go_simp
                exact hK' _ _ (hK _ _ (Below.refl _ _) (at_of rfl (rfl)))
              · obtain ⟨x, rfl⟩ := upd_of (show x 16 = .int .i64 0 from hd 16 _ (by simp) rfl)
                show wpOp Try.prog _ _ 17 K (⟨#[_, _, _, _, _, _, _, _, _, _, _, _, _, _, _, _, _, _, _, _, _, _, _, _, _, _, _, _, _, _, _, _, _, _, _, _, _, _, _, _, _, _, _, _, _, _, _, _, _, _, _, _, _, _, _, _, _, _, _, _, _, _, _, _, _, _, _, _, _, _, _, _, _, _, _, _, _, _, _, _, _, _, _, _, _, _, _, _, _, x 0, x 1, x 2, x 3, x 4, x 5, x 6, x 7, x 8, x 9, x 10, x 11, x 12, x 13, x 14, x 15, .int .i64 0, x 17, x 18, _, _, _, _, _, _, _, _, _, _, _, _, _, _, _, _, _, _, _, _, _, _, _, _, _, _, _, _, _, _, _, _, _, _, _, _, _, _, _, _, _, _, _, _, _, _, _, _, _, _, _, _, _, _, _, _, _, _, _, _, _, _, _, _, _, _, _, _, _, _, _, _, _, _, _, _, _, _, _, _, _, _, _, _, _, _, _, _, _, _, _, _, _, _, _, _, _, _, _, _, _, _, _, _, _, _, _, _, _, _, _, _, _, _, _, _, _, _, _, _, _, _, _, _, _, _, _, _, _, _, _, _, _, _, _, _, _, _, _, _, _, _], []⟩ : Act) v
                refine wpOp_step rfl (fun K' hK' => ?_)
                go_simp
                exact hK' _ _ (hK _ _ (Below.refl _ _) (at_of rfl (rfl)))
              · obtain ⟨x, rfl⟩ := upd_of (show x 2 = .int .i64 cL from hd 2 _ (by simp) rfl)
                obtain ⟨x, rfl⟩ := upd_of (show x 17 = .int .i64 0 from hd 17 _ (by simp) rfl)
                show wpOp Try.prog _ _ 18 K (⟨#[_, _, _, _, _, _, _, _, _, _, _, _, _, _, _, _, _, _, _, _, _, _, _, _, _, _, _, _, _, _, _, _, _, _, _, _, _, _, _, _, _, _, _, _, _, _, _, _, _, _, _, _, _, _, _, _, _, _, _, _, _, _, _, _, _, _, _, _, _, _, _, _, _, _, _, _, _, _, _, _, _, _, _, _, _, _, _, _, _, x 0, x 1, .int .i64 cL, x 3, x 4, x 5, x 6, x 7, x 8, x 9, x 10, x 11, x 12, x 13, x 14, x 15, x 16, .int .i64 0, x 18, _, _, _, _, _, _, _, _, _, _, _, _, _, _, _, _, _, _, _, _, _, _, _, _, _, _, _, _, _, _, _, _, _, _, _, _, _, _, _, _, _, _, _, _, _, _, _, _, _, _, _, _, _, _, _, _, _, _, _, _, _, _, _, _, _, _, _, _, _, _, _, _, _, _, _, _, _, _, _, _, _, _, _, _, _, _, _, _, _, _, _, _, _, _, _, _, _, _, _, _, _, _, _, _, _, _, _, _, _, _, _, _, _, _, _, _, _, _, _, _, _, _, _, _, _, _, _, _, _, _, _, _, _, _, _, _, _, _, _, _, _, _], []⟩ : Act) v
                refine wpOp_step rfl (fun K' hK' => ?_)
                go_simp
                exact hK' _ _ (hK _ _ (Below.refl _ _) (at_of rfl (rfl)))
            case fin9_0 =>
              rintro x v gv hd
              obtain ⟨x, rfl⟩ := upd_of (show x 18 = .int .i64 cL from hd 18 _ (by omega) rfl)
              clear hd
              show wpList Try.prog _ _ (List.drop 19 _) (⟨#[_, _, _, _, _, _, _, _, _, _, _, _, _, _, _, _, _, _, _, _, _, _, _, _, _, _, _, _, _, _, _, _, _, _, _, _, _, _, _, _, _, _, _, _, _, _, _, _, _, _, _, _, _, _, _, _, _, _, _, _, _, _, _, _, _, _, _, _, _, _, _, _, _, _, _, _, _, _, _, _, _, _, _, _, _, _, _, _, _, x 0, x 1, x 2, x 3, x 4, x 5, x 6, x 7, x 8, x 9, x 10, x 11, x 12, x 13, x 14, x 15, x 16, x 17, .int .i64 cL, _, _, _, _, _, _, _, _, _, _, _, _, _, _, _, _, _, _, _, _, _, _, _, _, _, _, _, _, _, _, _, _, _, _, _, _, _, _, _, _, _, _, _, _, _, _, _, _, _, _, _, _, _, _, _, _, _, _, _, _, _, _, _, _, _, _, _, _, _, _, _, _, _, _, _, _, _, _, _, _, _, _, _, _, _, _, _, _, _, _, _, _, _, _, _, _, _, _, _, _, _, _, _, _, _, _, _, _, _, _, _, _, _, _, _, _, _, _, _, _, _, _, _, _, _, _, _, _, _, _, _, _, _, _, _, _, _, _, _, _, _, _], []⟩ : Act) v
              simp only [List.drop_succ_cons, List.drop_zero]
              have hS := hS.keep gv
              clear gv t1 p2 p3 d0 d1 kE kC k9 k8
              go_upto_region 10 with fail
              obtain ⟨N0, hN0⟩ : ∃ N, cL * ar = N := ⟨_, rfl⟩
              have n0 : 0 ≤ N0 := by rw [← hN0]; exact Int.mul_nonneg (by omega) (by omega)
              have n1 : N0 ≤ 10000 * 15000 := by rw [← hN0]; exact Int.mul_le_mul (by omega) (by omega) (by omega) (by omega)
              obtain ⟨r0, r1, r2⟩ := rootL_spec n0
              obtain ⟨_, r3⟩ := rootL_small n0 (by omega)
              have hroot : strongB ar 100 1000 cL = rootL N0 := by rw [strongB_root, hN0]
              obtain ⟨r, hr⟩ : ∃ r, rootL N0 = r := ⟨_, rfl⟩
              rw [hr] at r0 r1 r2 r3 hroot
              have rr0 : 0 ≤ r * r := Int.mul_nonneg r0 r0
              have rr1 : (r + 1) * (r + 1) = r * r + 2 * r + 1 := by rw [Int.add_mul, Int.mul_add]; omega
              have hT : strongB ar ru eL cL = S0 := HS0.out
              have bk1 : boxOk eL eL cL cL ar ru = true := by
                simp only [boxOk, okSpan, inB, in1, List.all_cons, List.all_nil, Bool.and_true, Bool.and_eq_true, decide_eq_true_eq]
                omega
              have bk2 : boxOk 1000 1000 cL cL ar 100 = true := by
                simp only [boxOk, okSpan, inB, in1, List.all_cons, List.all_nil, Bool.and_true, Bool.and_eq_true, decide_eq_true_eq]
                omega
              have cT : ∀ W, Calls Try.prog 29 #[.agg #[.int .i64 eL, .int .i64 eL, .int .i64 cL, .int .i64 cL, .int .i64 ar, .int .i64 ru]] W fun e w' => e = .returned (.tuple #[.agg #[.int .i64 S0, .int .i64 S0], .int .i64 0]) ∧ Gr W w' := fun W => by
                have := crushStrength_ok eL eL cL cL ar ru bk1 W
                rw [hT] at this
                exact this
              have cR : ∀ W, Calls Try.prog 29 #[.agg #[.int .i64 1000, .int .i64 1000, .int .i64 cL, .int .i64 cL, .int .i64 ar, .int .i64 100]] W fun e w' => e = .returned (.tuple #[.agg #[.int .i64 r, .int .i64 r], .int .i64 0]) ∧ Gr W w' := fun W => by
                have := crushStrength_ok 1000 1000 cL cL ar 100 bk2 W
                rw [hroot] at this
                exact this
              have CT := Lib.hid cT
              have CR := Lib.hid cR
              have HN0 := Lib.hid hN0
              clear cT cR hT hroot hr bk1 bk2 hN0
              obtain ⟨p0, p1, p2, p3, p4, p5⟩ := hS.b5.c6'
              go_upto_region 11 with fail
              clear p0 p1 p2 p3 p4 p5

              obtain ⟨B11, hB11⟩ : ∃ B, B = v.heap.size := ⟨_, rfl⟩
              have o11 := Own.new v [.int .i64 eL, .int .i64 eH, .int .i64 cL, .int .i64 cH, .int .i64 ar, .int .i64 ru] 47 B11 hB11
              rw [← hB11]
              have hle : v.heap.size ≤ B11 := Nat.le_of_eq hB11.symm
              refine wp_abs (fun X => Gr v X ∧ Own X B11 [.int .i64 eL, .int .i64 eH, .int .i64 cL, .int .i64 cH, .int .i64 ar, .int .i64 ru]) ⟨Gr.al _ _, o11⟩ ?_
              clear o11 hB11
              rintro X1 ⟨gX1, o11⟩
              have tk : True := trivial
              go_upto_region 12 with (first
                | (have _t := tk; clear tk _t; go_at_call 31; refine (armSpan_any eL eL _).mono ?_; rintro e x1 ⟨rfl, g1⟩)
                | (go_at_call 31; refine (armSpan_any cL cL _).mono ?_; rintro e x2 ⟨rfl, g2⟩; have oX := o11.keep (g1.tr g2); (obtain ⟨p0, p1, p2, p3, p4, p5⟩ := oX.1.c6'); have f0 := oX.2 0; have f1 := oX.2 1; have f2 := oX.2 2; have f3 := oX.2 3))
              have oZ := (((oX.set (i := 0) (v := .int .i64 eL) (by simp)).set (i := 1) (v := .int .i64 eL) (by simp)).set (i := 2) (v := .int .i64 cL) (by simp)).set (i := 3) (v := .int .i64 cL) (by simp)
              have gZ := ((((gX1.tr (g1.tr g2)).setCell (p := ⟨B11, 0, none⟩) hle (.int .i64 eL)).setCell (p := ⟨B11, 1, none⟩) hle (.int .i64 eL)).setCell (p := ⟨B11, 2, none⟩) hle (.int .i64 cL)).setCell (p := ⟨B11, 3, none⟩) hle (.int .i64 cL)
              refine wp_abs (fun X => Gr v X ∧ Own X B11 [.int .i64 eL, .int .i64 eL, .int .i64 cL, .int .i64 cL, .int .i64 ar, .int .i64 ru]) ⟨gZ, oZ⟩ ?_
              clear gZ oZ oX p0 p1 p2 p3 p4 p5 f0 f1 f2 f3 g1 g2 o11 gX1
              rintro X2 ⟨gX2, o11⟩
              obtain ⟨p0, p1, p2, p3, p4, p5⟩ := o11.1.c6'
              go_upto_region 13 with (go_at_call 29; refine (CT.out _).mono ?_; rintro e x3 ⟨rfl, g3⟩)
              obtain ⟨B12, hB12⟩ : ∃ B, B = x3.heap.size := ⟨_, rfl⟩
              have b12 := Box.new x3 [.int .i64 S0, .int .i64 S0] 45 B12 hB12
              have g4 := g3.tr (Gr.al x3 (.cells #[.int .i64 S0, .int .i64 S0] 45))
              rw [← hB12]
              refine wp_abs (fun X => Gr v X ∧ Own X B11 [.int .i64 eL, .int .i64 eL, .int .i64 cL, .int .i64 cL, .int .i64 ar, .int .i64 ru] ∧ Box X B12 [.int .i64 S0, .int .i64 S0]) ⟨gX2.tr g4, o11.keep g4, b12⟩ ?_
              clear g4 g3 b12 hB12 p0 p1 p2 p3 p4 p5 o11 gX2
              rintro X3 ⟨gX3, o11, b12⟩
              have hS3 := hS.keep gX3
              obtain ⟨s0, s1⟩ := hS3.b6.c2
              obtain ⟨u0, u1⟩ := b12.c2
              have y7 : decide (S0 < S0) = false := by simp
              have y8 : decide (S1 < S0) = false := by
                have : S0 ≤ S1 := by rw [← HS0.out, ← HS1.out]; exact strongB_mono (by omega) (by omega) (by omega) (by omega) (by omega) (by omega) (Int.le_refl _)
                simp; omega
              have y9 : (S0 != S0) = false := by simp
              go_upto_region 16 with (go_at_call 31; refine (armSpan_any 1000 1000 _).mono ?_; rintro e x1 ⟨rfl, g1⟩; have oX := o11.keep g1; (obtain ⟨p0, p1, p2, p3, p4, p5⟩ := oX.1.c6'); have f0 := oX.2 0; have f1 := oX.2 1; have f5 := oX.2 5)
              have oZ := ((oX.set (i := 0) (v := .int .i64 1000) (by simp)).set (i := 1) (v := .int .i64 1000) (by simp)).set (i := 5) (v := .int .i64 100) (by simp)
              have gZ := (((gX3.tr g1).setCell (p := ⟨B11, 0, none⟩) hle (.int .i64 1000)).setCell (p := ⟨B11, 1, none⟩) hle (.int .i64 1000)).setCell (p := ⟨B11, 5, none⟩) hle (.int .i64 100)
              refine wp_abs (fun X => Gr v X ∧ Own X B11 [.int .i64 1000, .int .i64 1000, .int .i64 cL, .int .i64 cL, .int .i64 ar, .int .i64 100]) ⟨gZ, oZ⟩ ?_
              clear gZ oZ oX p0 p1 p2 p3 p4 p5 f0 f1 f5 g1 o11 gX3 b12 u0 u1 s0 s1 hS3 y7 y8 y9
              rintro X4 ⟨gX4, o11⟩
              obtain ⟨p0, p1, p2, p3, p4, p5⟩ := o11.1.c6'
              go_upto_region 17 with (go_at_call 29; refine (CR.out _).mono ?_; rintro e x3 ⟨rfl, g3⟩)
              obtain ⟨B14, hB14⟩ : ∃ B, B = x3.heap.size := ⟨_, rfl⟩
              have b14 := Box.new x3 [.int .i64 r, .int .i64 r] 45 B14 hB14
              have g4 := gX4.tr (g3.tr (Gr.al x3 (.cells #[.int .i64 r, .int .i64 r] 45)))
              rw [← hB14]
              refine wp_abs (fun X => Gr v X ∧ Box X B14 [.int .i64 r, .int .i64 r]) ⟨g4, b14⟩ ?_
              clear g4 g3 b14 hB14 p0 p1 p2 p3 p4 p5 o11 gX4
              rintro X5 ⟨gX5, b14⟩
              have hS5 := hS.keep gX5
              obtain ⟨u0, u1⟩ := b14.c2
              obtain ⟨p0, p1, p2, p3, p4, p5⟩ := hS5.b5.c6'
              have x0 : decide (r < 0) = false := by simp; omega
              have x1 : decide (100000 < r) = false := by simp; omega
              obtain ⟨s1, hs1⟩ : ∃ s1, r * r = s1 := ⟨_, rfl⟩
              obtain ⟨s2, hs2⟩ : ∃ s2, r + 1 = s2 := ⟨_, rfl⟩
              obtain ⟨s3, hs3⟩ : ∃ s3, s2 * s2 = s3 := ⟨_, rfl⟩
              rw [hs1] at r1 rr0 rr1
              rw [hs2, hs3] at r2 rr1
              have x2 : IntKind.i64.wrap (r * r) = s1 := by rw [hs1]; exact IntWalk.i64_in _ (by omega)
              have x3 : IntKind.i64.wrap (cL * ar) = N0 := by rw [HN0.out]; exact IntWalk.i64_in _ (by omega)
              have x4 : decide (N0 < s1) = false := by simp; omega
              have x5 : IntKind.i64.wrap (r + 1) = s2 := by rw [hs2]; exact IntWalk.i64_in _ (by omega)
              have x6 : IntKind.i64.wrap (s2 * s2) = s3 := by rw [hs3]; exact IntWalk.i64_in _ (by omega)
              have x7 : decide (s3 ≤ N0) = false := by simp; omega
              clear rr0 rr1 r1 r2 hs1 hs2 hs3 n0 n1 r3
              go_wp2
              go_roundw
              case rel => exact Lib.hid ⟨0 + 1, by omega, (by first | rfl | go_num), hS5⟩
              case measure => simp [intOf]
        · have d0 : IntKind.i64.wrap (eH - eL) = eH - eL := IntWalk.i64_in _ (by omega)
          have d1 : IntKind.i64.wrap (cH - cL) = cH - cL := IntWalk.i64_in _ (by omega)
          have d2 : IntKind.i64.wrap (255 * (eH - eL)) = 255 * (eH - eL) := IntWalk.i64_in _ (by omega)
          have d3 : IntKind.i64.wrap (255 * (cH - cL)) = 255 * (cH - cL) := IntWalk.i64_in _ (by omega)
          have d4 : (255 * (eH - eL)).tdiv 255 = eH - eL := by rw [Int.tdiv_eq_ediv_of_nonneg (by omega)]; omega
          have d5 : (255 * (cH - cL)).tdiv 255 = cH - cL := by rw [Int.tdiv_eq_ediv_of_nonneg (by omega)]; omega
          have kE : IntKind.i64.wrap (eL + (eH - eL)) = eH := by rw [IntWalk.i64_in _ (by omega)]; omega
          have kC : IntKind.i64.wrap (cL + (cH - cL)) = cH := by rw [IntWalk.i64_in _ (by omega)]; omega
          have k9 : IntKind.i64.wrap y0 = y0 := IntWalk.i64_in _ (by omega)
          have k8 : IntKind.i64.wrap y1 = y1 := IntWalk.i64_in _ (by omega)
          have e0 : eL ≤ eH ∧ eH ≤ eH := by omega
          have e1 : cL ≤ cH ∧ cH ≤ cH := by omega
          obtain ⟨t0, t1⟩ := hS.b3.c2
          obtain ⟨p0, p1, p2, p3, p4, p5⟩ := hS.b5.c6'
          go_upto_region 8 with fail
          refine (show (∀ s : Nat → Value, Code.wp Try.prog _ _ ⟨#[L 0, L 1, .pointer (some ⟨w.heap.size, 0, none⟩), .pointer (some ⟨(w.heap.size + 1), 0, none⟩), s 4, .pointer (some ⟨B5, 0, none⟩), .pointer (some ⟨B6, 0, none⟩), .int .i64 0, .int .i64 ((1 : Nat) : Int), s 9, s 10, s 11, s 12, s 13, s 14, s 15, s 16, undef, undef, undef, L 20, L 21, L 22, L 23, L 24, L 25, L 26, L 27, L 28, L 29, L 30, L 31, L 32, L 33, L 34, L 35, L 36, L 37, L 38, L 39, L 40, L 41, L 42, L 43, L 44, L 45, L 46, L 47, L 48, L 49, L 50, L 51, L 52, L 53, L 54, L 55, L 56, L 57, L 58, L 59, L 60, L 61, L 62, L 63, L 64, L 65, s 66, s 67, s 68, s 69, s 70, s 71, s 72, s 73, s 74, s 75, s 76, s 77, s 78, s 79, s 80, s 81, s 82, s 83, s 84, s 85, s 86, s 87, s 88, s 89, s 90, s 91, s 92, s 93, s 94, s 95, s 96, s 97, s 98, s 99, s 100, s 101, s 102, s 103, s 104, s 105, s 106, s 107, s 108, s 109, s 110, s 111, s 112, s 113, s 114, s 115, s 116, s 117, s 118, s 119, s 120, s 121, s 122, s 123, s 124, s 125, s 126, s 127, s 128, s 129, s 130, s 131, s 132, s 133, s 134, s 135, s 136, s 137, s 138, s 139, s 140, s 141, s 142, s 143, s 144, s 145, s 146, s 147, s 148, s 149, s 150, s 151, s 152, s 153, s 154, s 155, s 156, s 157, s 158, s 159, s 160, s 161, s 162, s 163, s 164, s 165, s 166, s 167, s 168, s 169, s 170, s 171, s 172, s 173, s 174, s 175, s 176, s 177, s 178, s 179, s 180, s 181, s 182, s 183, s 184, s 185, s 186, s 187, s 188, s 189, s 190, s 191, s 192, s 193, s 194, s 195, s 196, s 197, s 198, s 199, s 200, s 201, s 202, s 203, s 204, s 205, s 206, s 207, s 208, undef, undef, undef, undef, undef, undef, undef, undef, undef, undef, undef, undef, undef, undef, undef, undef, undef, undef, undef, undef, undef, undef, undef, undef, undef, undef, undef, undef, undef, undef, undef, undef, undef, undef, undef, undef, undef, undef, undef, undef, undef], []⟩ _) → _ from fun h => h ((fun l : List Value => fun i => l.getD i undef) [undef, undef, undef, undef, _, undef, undef, undef, undef, _, _, _, _, _, _, _, _, undef, undef, undef, undef, undef, undef, undef, undef, undef, undef, undef, undef, undef, undef, undef, undef, undef, undef, undef, undef, undef, undef, undef, undef, undef, undef, undef, undef, undef, undef, undef, undef, undef, undef, undef, undef, undef, undef, undef, undef, undef, undef, undef, undef, undef, undef, undef, undef, undef, _, _, _, _, _, _, _, _, _, _, _, _, _, _, _, _, _, _, _, _, _, _, _, _, _, _, _, _, _, _, _, _, _, _, _, _, _, _, _, _, _, _, _, _, _, _, _, _, _, _, _, _, _, _, _, _, _, _, _, _, _, _, _, _, _, _, _, _, _, _, _, _, _, _, _, _, _, _, _, _, _, _, _, _, _, _, _, _, _, _, _, _, _, _, _, _, _, _, _, _, _, _, _, _, _, _, _, _, _, _, _, _, _, _, _, _, _, _, _, _, _, _, _, _, _, _, _, _, _, _, _, _, _, _, _, _, _, _, _, _, _, _, _, undef, undef, undef, undef, undef, undef, undef, undef, undef, undef, undef, undef, undef, undef, undef, undef, undef, undef, undef, undef, undef, undef, undef, undef, undef, undef, undef, undef, undef, undef, undef, undef, undef, undef, undef, undef, undef, undef, undef, undef, undef])) ?_
          intro s
          dsimp only
          refine wp_region_facts 19 [(1, 0), (2, 1), (4, 3), (5, 4), (6, 5), (8, 6), (8, 7), (10, 9), (11, 10), (13, 12), (14, 13), (15, 11), (15, 14), (16, 8), (16, 15), (17, 16), (18, 2), (18, 17)] (fun x => ⟨#[L 0, L 1, .pointer (some ⟨w.heap.size, 0, none⟩), .pointer (some ⟨(w.heap.size + 1), 0, none⟩), s 4, .pointer (some ⟨B5, 0, none⟩), .pointer (some ⟨B6, 0, none⟩), .int .i64 0, .int .i64 ((1 : Nat) : Int), s 9, s 10, s 11, s 12, s 13, s 14, s 15, s 16, undef, undef, undef, L 20, L 21, L 22, L 23, L 24, L 25, L 26, L 27, L 28, L 29, L 30, L 31, L 32, L 33, L 34, L 35, L 36, L 37, L 38, L 39, L 40, L 41, L 42, L 43, L 44, L 45, L 46, L 47, L 48, L 49, L 50, L 51, L 52, L 53, L 54, L 55, L 56, L 57, L 58, L 59, L 60, L 61, L 62, L 63, L 64, L 65, s 66, s 67, s 68, s 69, x 0, x 1, x 2, x 3, x 4, x 5, x 6, x 7, x 8, x 9, x 10, x 11, x 12, x 13, x 14, x 15, x 16, x 17, x 18, s 89, s 90, s 91, s 92, s 93, s 94, s 95, s 96, s 97, s 98, s 99, s 100, s 101, s 102, s 103, s 104, s 105, s 106, s 107, s 108, s 109, s 110, s 111, s 112, s 113, s 114, s 115, s 116, s 117, s 118, s 119, s 120, s 121, s 122, s 123, s 124, s 125, s 126, s 127, s 128, s 129, s 130, s 131, s 132, s 133, s 134, s 135, s 136, s 137, s 138, s 139, s 140, s 141, s 142, s 143, s 144, s 145, s 146, s 147, s 148, s 149, s 150, s 151, s 152, s 153, s 154, s 155, s 156, s 157, s 158, s 159, s 160, s 161, s 162, s 163, s 164, s 165, s 166, s 167, s 168, s 169, s 170, s 171, s 172, s 173, s 174, s 175, s 176, s 177, s 178, s 179, s 180, s 181, s 182, s 183, s 184, s 185, s 186, s 187, s 188, s 189, s 190, s 191, s 192, s 193, s 194, s 195, s 196, s 197, s 198, s 199, s 200, s 201, s 202, s 203, s 204, s 205, s 206, s 207, s 208, undef, undef, undef, undef, undef, undef, undef, undef, undef, undef, undef, undef, undef, undef, undef, undef, undef, undef, undef, undef, undef, undef, undef, undef, undef, undef, undef, undef, undef, undef, undef, undef, undef, undef, undef, undef, undef, undef, undef, undef, undef], []⟩) (fun i => s (i + 70)) [fun _ x => x = .pointer (some ⟨B5, 0, none⟩), fun _ x => x = .pointer (some ⟨B5, 0, none⟩), fun _ x => x = .int .i64 eL, fun _ x => x = .pointer (some ⟨(w.heap.size + 1), 0, none⟩), fun _ x => x = .int .u8 y0, fun _ x => x = .int .i64 y0, fun _ x => x = .agg #[.int .i64 0, .int .i64 255, .int .i64 y0], fun _ x => x = .int .i64 ((1 : Nat) : Int), fun _ x => x = .int .i64 255, fun _ x => x = .pointer (some ⟨B5, 0, none⟩), fun _ x => x = .pointer (some ⟨B5, 1, none⟩), fun _ x => x = .int .i64 eH, fun _ x => x = .pointer (some ⟨B5, 0, none⟩), fun _ x => x = .pointer (some ⟨B5, 0, none⟩), fun _ x => x = .int .i64 eL, fun _ x => x = .int .i64 (eH - eL), fun _ x => x = .int .i64 (255 * (eH - eL)), fun _ x => x = .int .i64 (eH - eL), fun _ x => x = .int .i64 eH] (by rfl) (by kernel_rfl) (by kernel_rfl) (by kernel_rfl) (stays_cons (Stays.eq _) (stays_cons (Stays.eq _) (stays_cons (Stays.eq _) (stays_cons (Stays.eq _) (stays_cons (Stays.eq _) (stays_cons (Stays.eq _) (stays_cons (Stays.eq _) (stays_cons (Stays.eq _) (stays_cons (Stays.eq _) (stays_cons (Stays.eq _) (stays_cons (Stays.eq _) (stays_cons (Stays.eq _) (stays_cons (Stays.eq _) (stays_cons (Stays.eq _) (stays_cons (Stays.eq _) (stays_cons (Stays.eq _) (stays_cons (Stays.eq _) (stays_cons (Stays.eq _) (stays_cons (Stays.eq _) stays_nil))))))))))))))))))) ?step8_1 ?fin8_1
          case step8_1 =>
            rintro i hi x v gv hd K hK
            have hi8 : i = 0 ∨ i = 1 ∨ i = 2 ∨ i = 3 ∨ i = 4 ∨ i = 5 ∨ i = 6 ∨ i = 7 ∨ i = 8 ∨ i = 9 ∨ i = 10 ∨ i = 11 ∨ i = 12 ∨ i = 13 ∨ i = 14 ∨ i = 15 ∨ i = 16 ∨ i = 17 ∨ i = 18 := by omega
            rcases hi8 with rfl | rfl | rfl | rfl | rfl | rfl | rfl | rfl | rfl | rfl | rfl | rfl | rfl | rfl | rfl | rfl | rfl | rfl | rfl
            · show wpOp Try.prog _ _ 0 K (⟨#[_, _, _, _, _, _, _, _, _, _, _, _, _, _, _, _, _, _, _, _, _, _, _, _, _, _, _, _, _, _, _, _, _, _, _, _, _, _, _, _, _, _, _, _, _, _, _, _, _, _, _, _, _, _, _, _, _, _, _, _, _, _, _, _, _, _, _, _, _, _, x 0, x 1, x 2, x 3, x 4, x 5, x 6, x 7, x 8, x 9, x 10, x 11, x 12, x 13, x 14, x 15, x 16, x 17, x 18, _, _, _, _, _, _, _, _, _, _, _, _, _, _, _, _, _, _, _, _, _, _, _, _, _, _, _, _, _, _, _, _, _, _, _, _, _, _, _, _, _, _, _, _, _, _, _, _, _, _, _, _, _, _, _, _, _, _, _, _, _, _, _, _, _, _, _, _, _, _, _, _, _, _, _, _, _, _, _, _, _, _, _, _, _, _, _, _, _, _, _, _, _, _, _, _, _, _, _, _, _, _, _, _, _, _, _, _, _, _, _, _, _, _, _, _, _, _, _, _, _, _, _, _, _, _, _, _, _, _, _, _, _, _, _, _, _, _, _, _, _, _, _, _, _, _, _, _, _, _, _, _, _, _, _, _, _, _, _, _, _], []⟩ : Act) v
              refine wpOp_step rfl (fun K' hK' => ?_)
              go_simp
              exact hK' _ _ (hK _ _ (Below.refl _ _) (at_of rfl (rfl)))
            · obtain ⟨x, rfl⟩ := upd_of (show x 0 = .pointer (some ⟨B5, 0, none⟩) from hd 0 _ (by simp) rfl)
              show wpOp Try.prog _ _ 1 K (⟨#[_, _, _, _, _, _, _, _, _, _, _, _, _, _, _, _, _, _, _, _, _, _, _, _, _, _, _, _, _, _, _, _, _, _, _, _, _, _, _, _, _, _, _, _, _, _, _, _, _, _, _, _, _, _, _, _, _, _, _, _, _, _, _, _, _, _, _, _, _, _, .pointer (some ⟨B5, 0, none⟩), x 1, x 2, x 3, x 4, x 5, x 6, x 7, x 8, x 9, x 10, x 11, x 12, x 13, x 14, x 15, x 16, x 17, x 18, _, _, _, _, _, _, _, _, _, _, _, _, _, _, _, _, _, _, _, _, _, _, _, _, _, _, _, _, _, _, _, _, _, _, _, _, _, _, _, _, _, _, _, _, _, _, _, _, _, _, _, _, _, _, _, _, _, _, _, _, _, _, _, _, _, _, _, _, _, _, _, _, _, _, _, _, _, _, _, _, _, _, _, _, _, _, _, _, _, _, _, _, _, _, _, _, _, _, _, _, _, _, _, _, _, _, _, _, _, _, _, _, _, _, _, _, _, _, _, _, _, _, _, _, _, _, _, _, _, _, _, _, _, _, _, _, _, _, _, _, _, _, _, _, _, _, _, _, _, _, _, _, _, _, _, _, _, _, _, _, _], []⟩ : Act) v
              refine wpOp_step rfl (fun K' hK' => ?_)
              go_simp
              exact hK' _ _ (hK _ _ (Below.refl _ _) (at_of rfl (rfl)))
            · obtain ⟨x, rfl⟩ := upd_of (show x 1 = .pointer (some ⟨B5, 0, none⟩) from hd 1 _ (by simp) rfl)
              show wpOp Try.prog _ _ 2 K (⟨#[_, _, _, _, _, _, _, _, _, _, _, _, _, _, _, _, _, _, _, _, _, _, _, _, _, _, _, _, _, _, _, _, _, _, _, _, _, _, _, _, _, _, _, _, _, _, _, _, _, _, _, _, _, _, _, _, _, _, _, _, _, _, _, _, _, _, _, _, _, _, x 0, .pointer (some ⟨B5, 0, none⟩), x 2, x 3, x 4, x 5, x 6, x 7, x 8, x 9, x 10, x 11, x 12, x 13, x 14, x 15, x 16, x 17, x 18, _, _, _, _, _, _, _, _, _, _, _, _, _, _, _, _, _, _, _, _, _, _, _, _, _, _, _, _, _, _, _, _, _, _, _, _, _, _, _, _, _, _, _, _, _, _, _, _, _, _, _, _, _, _, _, _, _, _, _, _, _, _, _, _, _, _, _, _, _, _, _, _, _, _, _, _, _, _, _, _, _, _, _, _, _, _, _, _, _, _, _, _, _, _, _, _, _, _, _, _, _, _, _, _, _, _, _, _, _, _, _, _, _, _, _, _, _, _, _, _, _, _, _, _, _, _, _, _, _, _, _, _, _, _, _, _, _, _, _, _, _, _, _, _, _, _, _, _, _, _, _, _, _, _, _, _, _, _, _, _, _], []⟩ : Act) v
              refine wpOp_step rfl (fun K' hK' => ?_)
              have q := gv.keep p0
              go_simp
              exact hK' _ _ (hK _ _ (Below.refl _ _) (at_of rfl (rfl)))
            · show wpOp Try.prog _ _ 3 K (⟨#[_, _, _, _, _, _, _, _, _, _, _, _, _, _, _, _, _, _, _, _, _, _, _, _, _, _, _, _, _, _, _, _, _, _, _, _, _, _, _, _, _, _, _, _, _, _, _, _, _, _, _, _, _, _, _, _, _, _, _, _, _, _, _, _, _, _, _, _, _, _, x 0, x 1, x 2, x 3, x 4, x 5, x 6, x 7, x 8, x 9, x 10, x 11, x 12, x 13, x 14, x 15, x 16, x 17, x 18, _, _, _, _, _, _, _, _, _, _, _, _, _, _, _, _, _, _, _, _, _, _, _, _, _, _, _, _, _, _, _, _, _, _, _, _, _, _, _, _, _, _, _, _, _, _, _, _, _, _, _, _, _, _, _, _, _, _, _, _, _, _, _, _, _, _, _, _, _, _, _, _, _, _, _, _, _, _, _, _, _, _, _, _, _, _, _, _, _, _, _, _, _, _, _, _, _, _, _, _, _, _, _, _, _, _, _, _, _, _, _, _, _, _, _, _, _, _, _, _, _, _, _, _, _, _, _, _, _, _, _, _, _, _, _, _, _, _, _, _, _, _, _, _, _, _, _, _, _, _, _, _, _, _, _, _, _, _, _, _, _], []⟩ : Act) v
              refine wpOp_step rfl (fun K' hK' => ?_)
              go_simp
              exact hK' _ _ (hK _ _ (Below.refl _ _) (at_of rfl (rfl)))
            · obtain ⟨x, rfl⟩ := upd_of (show x 3 = .pointer (some ⟨(w.heap.size + 1), 0, none⟩) from hd 3 _ (by simp) rfl)
              show wpOp Try.prog _ _ 4 K (⟨#[_, _, _, _, _, _, _, _, _, _, _, _, _, _, _, _, _, _, _, _, _, _, _, _, _, _, _, _, _, _, _, _, _, _, _, _, _, _, _, _, _, _, _, _, _, _, _, _, _, _, _, _, _, _, _, _, _, _, _, _, _, _, _, _, _, _, _, _, _, _, x 0, x 1, x 2, .pointer (some ⟨(w.heap.size + 1), 0, none⟩), x 4, x 5, x 6, x 7, x 8, x 9, x 10, x 11, x 12, x 13, x 14, x 15, x 16, x 17, x 18, _, _, _, _, _, _, _, _, _, _, _, _, _, _, _, _, _, _, _, _, _, _, _, _, _, _, _, _, _, _, _, _, _, _, _, _, _, _, _, _, _, _, _, _, _, _, _, _, _, _, _, _, _, _, _, _, _, _, _, _, _, _, _, _, _, _, _, _, _, _, _, _, _, _, _, _, _, _, _, _, _, _, _, _, _, _, _, _, _, _, _, _, _, _, _, _, _, _, _, _, _, _, _, _, _, _, _, _, _, _, _, _, _, _, _, _, _, _, _, _, _, _, _, _, _, _, _, _, _, _, _, _, _, _, _, _, _, _, _, _, _, _, _, _, _, _, _, _, _, _, _, _, _, _, _, _, _, _, _, _, _], []⟩ : Act) v
              refine wpOp_step rfl (fun K' hK' => ?_)
              have q := gv.keep t0
              go_simp
              exact hK' _ _ (hK _ _ (Below.refl _ _) (at_of rfl (rfl)))
            · obtain ⟨x, rfl⟩ := upd_of (show x 4 = .int .u8 y0 from hd 4 _ (by simp) rfl)
              show wpOp Try.prog _ _ 5 K (⟨#[_, _, _, _, _, _, _, _, _, _, _, _, _, _, _, _, _, _, _, _, _, _, _, _, _, _, _, _, _, _, _, _, _, _, _, _, _, _, _, _, _, _, _, _, _, _, _, _, _, _, _, _, _, _, _, _, _, _, _, _, _, _, _, _, _, _, _, _, _, _, x 0, x 1, x 2, x 3, .int .u8 y0, x 5, x 6, x 7, x 8, x 9, x 10, x 11, x 12, x 13, x 14, x 15, x 16, x 17, x 18, _, _, _, _, _, _, _, _, _, _, _, _, _, _, _, _, _, _, _, _, _, _, _, _, _, _, _, _, _, _, _, _, _, _, _, _, _, _, _, _, _, _, _, _, _, _, _, _, _, _, _, _, _, _, _, _, _, _, _, _, _, _, _, _, _, _, _, _, _, _, _, _, _, _, _, _, _, _, _, _, _, _, _, _, _, _, _, _, _, _, _, _, _, _, _, _, _, _, _, _, _, _, _, _, _, _, _, _, _, _, _, _, _, _, _, _, _, _, _, _, _, _, _, _, _, _, _, _, _, _, _, _, _, _, _, _, _, _, _, _, _, _, _, _, _, _, _, _, _, _, _, _, _, _, _, _, _, _, _, _, _], []⟩ : Act) v
              refine wpOp_step rfl (fun K' hK' => ?_)
              go_simp
              exact hK' _ _ (hK _ _ (Below.refl _ _) (at_of rfl (rfl)))
            · obtain ⟨x, rfl⟩ := upd_of (show x 5 = .int .i64 y0 from hd 5 _ (by simp) rfl)
              show wpOp Try.prog _ _ 6 K (⟨#[_, _, _, _, _, _, _, _, _, _, _, _, _, _, _, _, _, _, _, _, _, _, _, _, _, _, _, _, _, _, _, _, _, _, _, _, _, _, _, _, _, _, _, _, _, _, _, _, _, _, _, _, _, _, _, _, _, _, _, _, _, _, _, _, _, _, _, _, _, _, x 0, x 1, x 2, x 3, x 4, .int .i64 y0, x 6, x 7, x 8, x 9, x 10, x 11, x 12, x 13, x 14, x 15, x 16, x 17, x 18, _, _, _, _, _, _, _, _, _, _, _, _, _, _, _, _, _, _, _, _, _, _, _, _, _, _, _, _, _, _, _, _, _, _, _, _, _, _, _, _, _, _, _, _, _, _, _, _, _, _, _, _, _, _, _, _, _, _, _, _, _, _, _, _, _, _, _, _, _, _, _, _, _, _, _, _, _, _, _, _, _, _, _, _, _, _, _, _, _, _, _, _, _, _, _, _, _, _, _, _, _, _, _, _, _, _, _, _, _, _, _, _, _, _, _, _, _, _, _, _, _, _, _, _, _, _, _, _, _, _, _, _, _, _, _, _, _, _, _, _, _, _, _, _, _, _, _, _, _, _, _, _, _, _, _, _, _, _, _, _, _], []⟩ : Act) v
              refine wpOp_step rfl (fun K' hK' => ?_)
              go_simp
              exact hK' _ _ (hK _ _ (Below.refl _ _) (at_of rfl (rfl)))
            · show wpOp Try.prog _ _ 7 K (⟨#[_, _, _, _, _, _, _, _, _, _, _, _, _, _, _, _, _, _, _, _, _, _, _, _, _, _, _, _, _, _, _, _, _, _, _, _, _, _, _, _, _, _, _, _, _, _, _, _, _, _, _, _, _, _, _, _, _, _, _, _, _, _, _, _, _, _, _, _, _, _, x 0, x 1, x 2, x 3, x 4, x 5, x 6, x 7, x 8, x 9, x 10, x 11, x 12, x 13, x 14, x 15, x 16, x 17, x 18, _, _, _, _, _, _, _, _, _, _, _, _, _, _, _, _, _, _, _, _, _, _, _, _, _, _, _, _, _, _, _, _, _, _, _, _, _, _, _, _, _, _, _, _, _, _, _, _, _, _, _, _, _, _, _, _, _, _, _, _, _, _, _, _, _, _, _, _, _, _, _, _, _, _, _, _, _, _, _, _, _, _, _, _, _, _, _, _, _, _, _, _, _, _, _, _, _, _, _, _, _, _, _, _, _, _, _, _, _, _, _, _, _, _, _, _, _, _, _, _, _, _, _, _, _, _, _, _, _, _, _, _, _, _, _, _, _, _, _, _, _, _, _, _, _, _, _, _, _, _, _, _, _, _, _, _, _, _, _, _, _], []⟩ : Act) v
              refine wpOp_step rfl (fun K' hK' => ?_)
              go_simp
              exact hK' _ _ (hK _ _ (Below.refl _ _) (at_of rfl (rfl)))
            · obtain ⟨x, rfl⟩ := upd_of (show x 6 = .agg #[.int .i64 0, .int .i64 255, .int .i64 y0] from hd 6 _ (by simp) rfl)
              obtain ⟨x, rfl⟩ := upd_of (show x 7 = .int .i64 ((1 : Nat) : Int) from hd 7 _ (by simp) rfl)
              show wpOp Try.prog _ _ 8 K (⟨#[_, _, _, _, _, _, _, _, _, _, _, _, _, _, _, _, _, _, _, _, _, _, _, _, _, _, _, _, _, _, _, _, _, _, _, _, _, _, _, _, _, _, _, _, _, _, _, _, _, _, _, _, _, _, _, _, _, _, _, _, _, _, _, _, _, _, _, _, _, _, x 0, x 1, x 2, x 3, x 4, x 5, .agg #[.int .i64 0, .int .i64 255, .int .i64 y0], .int .i64 ((1 : Nat) : Int), x 8, x 9, x 10, x 11, x 12, x 13, x 14, x 15, x 16, x 17, x 18, _, _, _, _, _, _, _, _, _, _, _, _, _, _, _, _, _, _, _, _, _, _, _, _, _, _, _, _, _, _, _, _, _, _, _, _, _, _, _, _, _, _, _, _, _, _, _, _, _, _, _, _, _, _, _, _, _, _, _, _, _, _, _, _, _, _, _, _, _, _, _, _, _, _, _, _, _, _, _, _, _, _, _, _, _, _, _, _, _, _, _, _, _, _, _, _, _, _, _, _, _, _, _, _, _, _, _, _, _, _, _, _, _, _, _, _, _, _, _, _, _, _, _, _, _, _, _, _, _, _, _, _, _, _, _, _, _, _, _, _, _, _, _, _, _, _, _, _, _, _, _, _, _, _, _, _, _, _, _, _, _], []⟩ : Act) v
              refine wpOp_step rfl (fun K' hK' => ?_)
              go_simp
              exact hK' _ _ (hK _ _ (Below.refl _ _) (at_of rfl (rfl)))
            · show wpOp Try.prog _ _ 9 K (⟨#[_, _, _, _, _, _, _, _, _, _, _, _, _, _, _, _, _, _, _, _, _, _, _, _, _, _, _, _, _, _, _, _, _, _, _, _, _, _, _, _, _, _, _, _, _, _, _, _, _, _, _, _, _, _, _, _, _, _, _, _, _, _, _, _, _, _, _, _, _, _, x 0, x 1, x 2, x 3, x 4, x 5, x 6, x 7, x 8, x 9, x 10, x 11, x 12, x 13, x 14, x 15, x 16, x 17, x 18, _, _, _, _, _, _, _, _, _, _, _, _, _, _, _, _, _, _, _, _, _, _, _, _, _, _, _, _, _, _, _, _, _, _, _, _, _, _, _, _, _, _, _, _, _, _, _, _, _, _, _, _, _, _, _, _, _, _, _, _, _, _, _, _, _, _, _, _, _, _, _, _, _, _, _, _, _, _, _, _, _, _, _, _, _, _, _, _, _, _, _, _, _, _, _, _, _, _, _, _, _, _, _, _, _, _, _, _, _, _, _, _, _, _, _, _, _, _, _, _, _, _, _, _, _, _, _, _, _, _, _, _, _, _, _, _, _, _, _, _, _, _, _, _, _, _, _, _, _, _, _, _, _, _, _, _, _, _, _, _, _], []⟩ : Act) v
              refine wpOp_step rfl (fun K' hK' => ?_)
              go_simp
              exact hK' _ _ (hK _ _ (Below.refl _ _) (at_of rfl (rfl)))
            · obtain ⟨x, rfl⟩ := upd_of (show x 9 = .pointer (some ⟨B5, 0, none⟩) from hd 9 _ (by simp) rfl)
              show wpOp Try.prog _ _ 10 K (⟨#[_, _, _, _, _, _, _, _, _, _, _, _, _, _, _, _, _, _, _, _, _, _, _, _, _, _, _, _, _, _, _, _, _, _, _, _, _, _, _, _, _, _, _, _, _, _, _, _, _, _, _, _, _, _, _, _, _, _, _, _, _, _, _, _, _, _, _, _, _, _, x 0, x 1, x 2, x 3, x 4, x 5, x 6, x 7, x 8, .pointer (some ⟨B5, 0, none⟩), x 10, x 11, x 12, x 13, x 14, x 15, x 16, x 17, x 18, _, _, _, _, _, _, _, _, _, _, _, _, _, _, _, _, _, _, _, _, _, _, _, _, _, _, _, _, _, _, _, _, _, _, _, _, _, _, _, _, _, _, _, _, _, _, _, _, _, _, _, _, _, _, _, _, _, _, _, _, _, _, _, _, _, _, _, _, _, _, _, _, _, _, _, _, _, _, _, _, _, _, _, _, _, _, _, _, _, _, _, _, _, _, _, _, _, _, _, _, _, _, _, _, _, _, _, _, _, _, _, _, _, _, _, _, _, _, _, _, _, _, _, _, _, _, _, _, _, _, _, _, _, _, _, _, _, _, _, _, _, _, _, _, _, _, _, _, _, _, _, _, _, _, _, _, _, _, _, _, _], []⟩ : Act) v
              refine wpOp_step rfl (fun K' hK' => ?_)
              go_simp
              exact hK' _ _ (hK _ _ (Below.refl _ _) (at_of rfl (rfl)))
            · obtain ⟨x, rfl⟩ := upd_of (show x 10 = .pointer (some ⟨B5, 1, none⟩) from hd 10 _ (by simp) rfl)
              show wpOp Try.prog _ _ 11 K (⟨#[_, _, _, _, _, _, _, _, _, _, _, _, _, _, _, _, _, _, _, _, _, _, _, _, _, _, _, _, _, _, _, _, _, _, _, _, _, _, _, _, _, _, _, _, _, _, _, _, _, _, _, _, _, _, _, _, _, _, _, _, _, _, _, _, _, _, _, _, _, _, x 0, x 1, x 2, x 3, x 4, x 5, x 6, x 7, x 8, x 9, .pointer (some ⟨B5, 1, none⟩), x 11, x 12, x 13, x 14, x 15, x 16, x 17, x 18, _, _, _, _, _, _, _, _, _, _, _, _, _, _, _, _, _, _, _, _, _, _, _, _, _, _, _, _, _, _, _, _, _, _, _, _, _, _, _, _, _, _, _, _, _, _, _, _, _, _, _, _, _, _, _, _, _, _, _, _, _, _, _, _, _, _, _, _, _, _, _, _, _, _, _, _, _, _, _, _, _, _, _, _, _, _, _, _, _, _, _, _, _, _, _, _, _, _, _, _, _, _, _, _, _, _, _, _, _, _, _, _, _, _, _, _, _, _, _, _, _, _, _, _, _, _, _, _, _, _, _, _, _, _, _, _, _, _, _, _, _, _, _, _, _, _, _, _, _, _, _, _, _, _, _, _, _, _, _, _, _], []⟩ : Act) v
              refine wpOp_step rfl (fun K' hK' => ?_)
              have q := gv.keep p1
              go_simp
              exact hK' _ _ (hK _ _ (Below.refl _ _) (at_of rfl (rfl)))
            · show wpOp Try.prog _ _ 12 K (⟨#[_, _, _, _, _, _, _, _, _, _, _, _, _, _, _, _, _, _, _, _, _, _, _, _, _, _, _, _, _, _, _, _, _, _, _, _, _, _, _, _, _, _, _, _, _, _, _, _, _, _, _, _, _, _, _, _, _, _, _, _, _, _, _, _, _, _, _, _, _, _, x 0, x 1, x 2, x 3, x 4, x 5, x 6, x 7, x 8, x 9, x 10, x 11, x 12, x 13, x 14, x 15, x 16, x 17, x 18, _, _, _, _, _, _, _, _, _, _, _, _, _, _, _, _, _, _, _, _, _, _, _, _, _, _, _, _, _, _, _, _, _, _, _, _, _, _, _, _, _, _, _, _, _, _, _, _, _, _, _, _, _, _, _, _, _, _, _, _, _, _, _, _, _, _, _, _, _, _, _, _, _, _, _, _, _, _, _, _, _, _, _, _, _, _, _, _, _, _, _, _, _, _, _, _, _, _, _, _, _, _, _, _, _, _, _, _, _, _, _, _, _, _, _, _, _, _, _, _, _, _, _, _, _, _, _, _, _, _, _, _, _, _, _, _, _, _, _, _, _, _, _, _, _, _, _, _, _, _, _, _, _, _, _, _, _, _, _, _, _], []⟩ : Act) v
              refine wpOp_step rfl (fun K' hK' => ?_)
              go_simp
              exact hK' _ _ (hK _ _ (Below.refl _ _) (at_of rfl (rfl)))
            · obtain ⟨x, rfl⟩ := upd_of (show x 12 = .pointer (some ⟨B5, 0, none⟩) from hd 12 _ (by simp) rfl)
              show wpOp Try.prog _ _ 13 K (⟨#[_, _, _, _, _, _, _, _, _, _, _, _, _, _, _, _, _, _, _, _, _, _, _, _, _, _, _, _, _, _, _, _, _, _, _, _, _, _, _, _, _, _, _, _, _, _, _, _, _, _, _, _, _, _, _, _, _, _, _, _, _, _, _, _, _, _, _, _, _, _, x 0, x 1, x 2, x 3, x 4, x 5, x 6, x 7, x 8, x 9, x 10, x 11, .pointer (some ⟨B5, 0, none⟩), x 13, x 14, x 15, x 16, x 17, x 18, _, _, _, _, _, _, _, _, _, _, _, _, _, _, _, _, _, _, _, _, _, _, _, _, _, _, _, _, _, _, _, _, _, _, _, _, _, _, _, _, _, _, _, _, _, _, _, _, _, _, _, _, _, _, _, _, _, _, _, _, _, _, _, _, _, _, _, _, _, _, _, _, _, _, _, _, _, _, _, _, _, _, _, _, _, _, _, _, _, _, _, _, _, _, _, _, _, _, _, _, _, _, _, _, _, _, _, _, _, _, _, _, _, _, _, _, _, _, _, _, _, _, _, _, _, _, _, _, _, _, _, _, _, _, _, _, _, _, _, _, _, _, _, _, _, _, _, _, _, _, _, _, _, _, _, _, _, _, _, _, _], []⟩ : Act) v
              refine wpOp_step rfl (fun K' hK' => ?_)
              go_simp
              exact hK' _ _ (hK _ _ (Below.refl _ _) (at_of rfl (rfl)))
            · obtain ⟨x, rfl⟩ := upd_of (show x 13 = .pointer (some ⟨B5, 0, none⟩) from hd 13 _ (by simp) rfl)
              show wpOp Try.prog _ _ 14 K (⟨#[_, _, _, _, _, _, _, _, _, _, _, _, _, _, _, _, _, _, _, _, _, _, _, _, _, _, _, _, _, _, _, _, _, _, _, _, _, _, _, _, _, _, _, _, _, _, _, _, _, _, _, _, _, _, _, _, _, _, _, _, _, _, _, _, _, _, _, _, _, _, x 0, x 1, x 2, x 3, x 4, x 5, x 6, x 7, x 8, x 9, x 10, x 11, x 12, .pointer (some ⟨B5, 0, none⟩), x 14, x 15, x 16, x 17, x 18, _, _, _, _, _, _, _, _, _, _, _, _, _, _, _, _, _, _, _, _, _, _, _, _, _, _, _, _, _, _, _, _, _, _, _, _, _, _, _, _, _, _, _, _, _, _, _, _, _, _, _, _, _, _, _, _, _, _, _, _, _, _, _, _, _, _, _, _, _, _, _, _, _, _, _, _, _, _, _, _, _, _, _, _, _, _, _, _, _, _, _, _, _, _, _, _, _, _, _, _, _, _, _, _, _, _, _, _, _, _, _, _, _, _, _, _, _, _, _, _, _, _, _, _, _, _, _, _, _, _, _, _, _, _, _, _, _, _, _, _, _, _, _, _, _, _, _, _, _, _, _, _, _, _, _, _, _, _, _, _, _], []⟩ : Act) v
              refine wpOp_step rfl (fun K' hK' => ?_)
              have q := gv.keep p0
              go_simp
              exact hK' _ _ (hK _ _ (Below.refl _ _) (at_of rfl (rfl)))
            · obtain ⟨x, rfl⟩ := upd_of (show x 11 = .int .i64 eH from hd 11 _ (by simp) rfl)
              obtain ⟨x, rfl⟩ := upd_of (show x 14 = .int .i64 eL from hd 14 _ (by simp) rfl)
              show wpOp Try.prog _ _ 15 K (⟨#[_, _, _, _, _, _, _, _, _, _, _, _, _, _, _, _, _, _, _, _, _, _, _, _, _, _, _, _, _, _, _, _, _, _, _, _, _, _, _, _, _, _, _, _, _, _, _, _, _, _, _, _, _, _, _, _, _, _, _, _, _, _, _, _, _, _, _, _, _, _, x 0, x 1, x 2, x 3, x 4, x 5, x 6, x 7, x 8, x 9, x 10, .int .i64 eH, x 12, x 13, .int .i64 eL, x 15, x 16, x 17, x 18, _, _, _, _, _, _, _, _, _, _, _, _, _, _, _, _, _, _, _, _, _, _, _, _, _, _, _, _, _, _, _, _, _, _, _, _, _, _, _, _, _, _, _, _, _, _, _, _, _, _, _, _, _, _, _, _, _, _, _, _, _, _, _, _, _, _, _, _, _, _, _, _, _, _, _, _, _, _, _, _, _, _, _, _, _, _, _, _, _, _, _, _, _, _, _, _, _, _, _, _, _, _, _, _, _, _, _, _, _, _, _, _, _, _, _, _, _, _, _, _, _, _, _, _, _, _, _, _, _, _, _, _, _, _, _, _, _, _, _, _, _, _, _, _, _, _, _, _, _, _, _, _, _, _, _, _, _, _, _, _, _], []⟩ : Act) v
              refine wpOp_step rfl (fun K' hK' => ?_)
              go_simp
              exact hK' _ _ (hK _ _ (Below.refl _ _) (at_of rfl (rfl)))
            · obtain ⟨x, rfl⟩ := upd_of (show x 8 = .int .i64 255 from hd 8 _ (by simp) rfl)
              obtain ⟨x, rfl⟩ := upd_of (show x 15 = .int .i64 (eH - eL) from hd 15 _ (by simp) rfl)
              show wpOp Try.prog _ _ 16 K (⟨#[_, _, _, _, _, _, _, _, _, _, _, _, _, _, _, _, _, _, _, _, _, _, _, _, _, _, _, _, _, _, _, _, _, _, _, _, _, _, _, _, _, _, _, _, _, _, _, _, _, _, _, _, _, _, _, _, _, _, _, _, _, _, _, _, _, _, _, _, _, _, x 0, x 1, x 2, x 3, x 4, x 5, x 6, x 7, .int .i64 255, x 9, x 10, x 11, x 12, x 13, x 14, .int .i64 (eH - eL), x 16, x 17, x 18, _, _, _, _, _, _, _, _, _, _, _, _, _, _, _, _, _, _, _, _, _, _, _, _, _, _, _, _, _, _, _, _, _, _, _, _, _, _, _, _, _, _, _, _, _, _, _, _, _, _, _, _, _, _, _, _, _, _, _, _, _, _, _, _, _, _, _, _, _, _, _, _, _, _, _, _, _, _, _, _, _, _, _, _, _, _, _, _, _, _, _, _, _, _, _, _, _, _, _, _, _, _, _, _, _, _, _, _, _, _, _, _, _, _, _, _, _, _, _, _, _, _, _, _, _, _, _, _, _, _, _, _, _, _, _, _, _, _, _, _, _, _, _, _, _, _, _, _, _, _, _, _, _, _, _, _, _, _, _, _, _], []⟩ : Act) v
              refine wpOp_step rfl (fun K' hK' => ?_)
              go_simp
              exact hK' _ _ (hK _ _ (Below.refl _ _) (at_of rfl (rfl)))
            · obtain ⟨x, rfl⟩ := upd_of (show x 16 = .int .i64 (255 * (eH - eL)) from hd 16 _ (by simp) rfl)
              show wpOp Try.prog _ _ 17 K (⟨#[_, _, _, _, _, _, _, _, _, _, _, _, _, _, _, _, _, _, _, _, _, _, _, _, _, _, _, _, _, _, _, _, _, _, _, _, _, _, _, _, _, _, _, _, _, _, _, _, _, _, _, _, _, _, _, _, _, _, _, _, _, _, _, _, _, _, _, _, _, _, x 0, x 1, x 2, x 3, x 4, x 5, x 6, x 7, x 8, x 9, x 10, x 11, x 12, x 13, x 14, x 15, .int .i64 (255 * (eH - eL)), x 17, x 18, _, _, _, _, _, _, _, _, _, _, _, _, _, _, _, _, _, _, _, _, _, _, _, _, _, _, _, _, _, _, _, _, _, _, _, _, _, _, _, _, _, _, _, _, _, _, _, _, _, _, _, _, _, _, _, _, _, _, _, _, _, _, _, _, _, _, _, _, _, _, _, _, _, _, _, _, _, _, _, _, _, _, _, _, _, _, _, _, _, _, _, _, _, _, _, _, _, _, _, _, _, _, _, _, _, _, _, _, _, _, _, _, _, _, _, _, _, _, _, _, _, _, _, _, _, _, _, _, _, _, _, _, _, _, _, _, _, _, _, _, _, _, _, _, _, _, _, _, _, _, _, _, _, _, _, _, _, _, _, _, _], []⟩ : Act) v
              refine wpOp_step rfl (fun K' hK' => ?_)
              go_simp
              exact hK' _ _ (hK _ _ (Below.refl _ _) (at_of rfl (rfl)))
            · obtain ⟨x, rfl⟩ := upd_of (show x 2 = .int .i64 eL from hd 2 _ (by simp) rfl)
              obtain ⟨x, rfl⟩ := upd_of (show x 17 = .int .i64 (eH - eL) from hd 17 _ (by simp) rfl)
              show wpOp Try.prog _ _ 18 K (⟨#[_, _, _, _, _, _, _, _, _, _, _, _, _, _, _, _, _, _, _, _, _, _, _, _, _, _, _, _, _, _, _, _, _, _, _, _, _, _, _, _, _, _, _, _, _, _, _, _, _, _, _, _, _, _, _, _, _, _, _, _, _, _, _, _, _, _, _, _, _, _, x 0, x 1, .int .i64 eL, x 3, x 4, x 5, x 6, x 7, x 8, x 9, x 10, x 11, x 12, x 13, x 14, x 15, x 16, .int .i64 (eH - eL), x 18, _, _, _, _, _, _, _, _, _, _, _, _, _, _, _, _, _, _, _, _, _, _, _, _, _, _, _, _, _, _, _, _, _, _, _, _, _, _, _, _, _, _, _, _, _, _, _, _, _, _, _, _, _, _, _, _, _, _, _, _, _, _, _, _, _, _, _, _, _, _, _, _, _, _, _, _, _, _, _, _, _, _, _, _, _, _, _, _, _, _, _, _, _, _, _, _, _, _, _, _, _, _, _, _, _, _, _, _, _, _, _, _, _, _, _, _, _, _, _, _, _, _, _, _, _, _, _, _, _, _, _, _, _, _, _, _, _, _, _, _, _, _, _, _, _, _, _, _, _, _, _, _, _, _, _, _, _, _, _, _, _], []⟩ : Act) v
              refine wpOp_step rfl (fun K' hK' => ?_)
              go_simp
              exact hK' _ _ (hK _ _ (Below.refl _ _) (at_of rfl (rfl)))
          case fin8_1 =>
            rintro x v gv hd
            obtain ⟨x, rfl⟩ := upd_of (show x 18 = .int .i64 eH from hd 18 _ (by omega) rfl)
            clear hd
            show wpList Try.prog _ _ (List.drop 19 _) (⟨#[_, _, _, _, _, _, _, _, _, _, _, _, _, _, _, _, _, _, _, _, _, _, _, _, _, _, _, _, _, _, _, _, _, _, _, _, _, _, _, _, _, _, _, _, _, _, _, _, _, _, _, _, _, _, _, _, _, _, _, _, _, _, _, _, _, _, _, _, _, _, x 0, x 1, x 2, x 3, x 4, x 5, x 6, x 7, x 8, x 9, x 10, x 11, x 12, x 13, x 14, x 15, x 16, x 17, .int .i64 eH, _, _, _, _, _, _, _, _, _, _, _, _, _, _, _, _, _, _, _, _, _, _, _, _, _, _, _, _, _, _, _, _, _, _, _, _, _, _, _, _, _, _, _, _, _, _, _, _, _, _, _, _, _, _, _, _, _, _, _, _, _, _, _, _, _, _, _, _, _, _, _, _, _, _, _, _, _, _, _, _, _, _, _, _, _, _, _, _, _, _, _, _, _, _, _, _, _, _, _, _, _, _, _, _, _, _, _, _, _, _, _, _, _, _, _, _, _, _, _, _, _, _, _, _, _, _, _, _, _, _, _, _, _, _, _, _, _, _, _, _, _, _, _, _, _, _, _, _, _, _, _, _, _, _, _, _, _, _, _, _, _], []⟩ : Act) v
            simp only [List.drop_succ_cons, List.drop_zero]
            have hS := hS.keep gv
            have t1 := gv.keep t1
            have p2 := gv.keep p2
            have p3 := gv.keep p3
            clear gv t0 p0 p1 p4 p5
            go_upto_region 9 with fail
            refine (show (∀ z : Nat → Value, Code.wp Try.prog _ _ ⟨#[L 0, L 1, .pointer (some ⟨w.heap.size, 0, none⟩), .pointer (some ⟨(w.heap.size + 1), 0, none⟩), z 4, .pointer (some ⟨B5, 0, none⟩), .pointer (some ⟨B6, 0, none⟩), .int .i64 0, .int .i64 ((1 : Nat) : Int), .int .i64 eH, z 10, z 11, z 12, z 13, z 14, z 15, z 16, undef, undef, undef, L 20, L 21, L 22, L 23, L 24, L 25, L 26, L 27, L 28, L 29, L 30, L 31, L 32, L 33, L 34, L 35, L 36, L 37, L 38, L 39, L 40, L 41, L 42, L 43, L 44, L 45, L 46, L 47, L 48, L 49, L 50, L 51, L 52, L 53, L 54, L 55, L 56, L 57, L 58, L 59, L 60, L 61, L 62, L 63, L 64, L 65, z 66, z 67, z 68, z 69, z 70, z 71, z 72, z 73, z 74, z 75, z 76, z 77, z 78, z 79, z 80, z 81, z 82, z 83, z 84, z 85, z 86, z 87, z 88, z 89, z 90, z 91, z 92, z 93, z 94, z 95, z 96, z 97, z 98, z 99, z 100, z 101, z 102, z 103, z 104, z 105, z 106, z 107, z 108, z 109, z 110, z 111, z 112, z 113, z 114, z 115, z 116, z 117, z 118, z 119, z 120, z 121, z 122, z 123, z 124, z 125, z 126, z 127, z 128, z 129, z 130, z 131, z 132, z 133, z 134, z 135, z 136, z 137, z 138, z 139, z 140, z 141, z 142, z 143, z 144, z 145, z 146, z 147, z 148, z 149, z 150, z 151, z 152, z 153, z 154, z 155, z 156, z 157, z 158, z 159, z 160, z 161, z 162, z 163, z 164, z 165, z 166, z 167, z 168, z 169, z 170, z 171, z 172, z 173, z 174, z 175, z 176, z 177, z 178, z 179, z 180, z 181, z 182, z 183, z 184, z 185, z 186, z 187, z 188, z 189, z 190, z 191, z 192, z 193, z 194, z 195, z 196, z 197, z 198, z 199, z 200, z 201, z 202, z 203, z 204, z 205, z 206, z 207, z 208, undef, undef, undef, undef, undef, undef, undef, undef, undef, undef, undef, undef, undef, undef, undef, undef, undef, undef, undef, undef, undef, undef, undef, undef, undef, undef, undef, undef, undef, undef, undef, undef, undef, undef, undef, undef, undef, undef, undef, undef, undef], []⟩ _) → _ from fun h => h ((fun l : List Value => fun i => l.getD i undef) [undef, undef, undef, undef, _, undef, undef, undef, undef, undef, _, _, _, _, _, _, _, undef, undef, undef, undef, undef, undef, undef, undef, undef, undef, undef, undef, undef, undef, undef, undef, undef, undef, undef, undef, undef, undef, undef, undef, undef, undef, undef, undef, undef, undef, undef, undef, undef, undef, undef, undef, undef, undef, undef, undef, undef, undef, undef, undef, undef, undef, undef, undef, undef, _, _, _, _, _, _, _, _, _, _, _, _, _, _, _, _, _, _, _, _, _, _, _, _, _, _, _, _, _, _, _, _, _, _, _, _, _, _, _, _, _, _, _, _, _, _, _, _, _, _, _, _, _, _, _, _, _, _, _, _, _, _, _, _, _, _, _, _, _, _, _, _, _, _, _, _, _, _, _, _, _, _, _, _, _, _, _, _, _, _, _, _, _, _, _, _, _, _, _, _, _, _, _, _, _, _, _, _, _, _, _, _, _, _, _, _, _, _, _, _, _, _, _, _, _, _, _, _, _, _, _, _, _, _, _, _, _, _, _, _, _, _, _, undef, undef, undef, undef, undef, undef, undef, undef, undef, undef, undef, undef, undef, undef, undef, undef, undef, undef, undef, undef, undef, undef, undef, undef, undef, undef, undef, undef, undef, undef, undef, undef, undef, undef, undef, undef, undef, undef, undef, undef, undef])) ?_
            intro z
            dsimp only
            refine wp_region_facts 19 [(1, 0), (2, 1), (4, 3), (5, 4), (6, 5), (8, 6), (8, 7), (10, 9), (11, 10), (13, 12), (14, 13), (15, 11), (15, 14), (16, 8), (16, 15), (17, 16), (18, 2), (18, 17)] (fun x => ⟨#[L 0, L 1, .pointer (some ⟨w.heap.size, 0, none⟩), .pointer (some ⟨(w.heap.size + 1), 0, none⟩), z 4, .pointer (some ⟨B5, 0, none⟩), .pointer (some ⟨B6, 0, none⟩), .int .i64 0, .int .i64 ((1 : Nat) : Int), .int .i64 eH, z 10, z 11, z 12, z 13, z 14, z 15, z 16, undef, undef, undef, L 20, L 21, L 22, L 23, L 24, L 25, L 26, L 27, L 28, L 29, L 30, L 31, L 32, L 33, L 34, L 35, L 36, L 37, L 38, L 39, L 40, L 41, L 42, L 43, L 44, L 45, L 46, L 47, L 48, L 49, L 50, L 51, L 52, L 53, L 54, L 55, L 56, L 57, L 58, L 59, L 60, L 61, L 62, L 63, L 64, L 65, z 66, z 67, z 68, z 69, z 70, z 71, z 72, z 73, z 74, z 75, z 76, z 77, z 78, z 79, z 80, z 81, z 82, z 83, z 84, z 85, z 86, z 87, z 88, x 0, x 1, x 2, x 3, x 4, x 5, x 6, x 7, x 8, x 9, x 10, x 11, x 12, x 13, x 14, x 15, x 16, x 17, x 18, z 108, z 109, z 110, z 111, z 112, z 113, z 114, z 115, z 116, z 117, z 118, z 119, z 120, z 121, z 122, z 123, z 124, z 125, z 126, z 127, z 128, z 129, z 130, z 131, z 132, z 133, z 134, z 135, z 136, z 137, z 138, z 139, z 140, z 141, z 142, z 143, z 144, z 145, z 146, z 147, z 148, z 149, z 150, z 151, z 152, z 153, z 154, z 155, z 156, z 157, z 158, z 159, z 160, z 161, z 162, z 163, z 164, z 165, z 166, z 167, z 168, z 169, z 170, z 171, z 172, z 173, z 174, z 175, z 176, z 177, z 178, z 179, z 180, z 181, z 182, z 183, z 184, z 185, z 186, z 187, z 188, z 189, z 190, z 191, z 192, z 193, z 194, z 195, z 196, z 197, z 198, z 199, z 200, z 201, z 202, z 203, z 204, z 205, z 206, z 207, z 208, undef, undef, undef, undef, undef, undef, undef, undef, undef, undef, undef, undef, undef, undef, undef, undef, undef, undef, undef, undef, undef, undef, undef, undef, undef, undef, undef, undef, undef, undef, undef, undef, undef, undef, undef, undef, undef, undef, undef, undef, undef], []⟩) (fun i => z (i + 89)) [fun _ x => x = .pointer (some ⟨B5, 2, none⟩), fun _ x => x = .pointer (some ⟨B5, 2, none⟩), fun _ x => x = .int .i64 cL, fun _ x => x = .pointer (some ⟨(w.heap.size + 1), 1, none⟩), fun _ x => x = .int .u8 y1, fun _ x => x = .int .i64 y1, fun _ x => x = .agg #[.int .i64 0, .int .i64 255, .int .i64 y1], fun _ x => x = .int .i64 ((1 : Nat) : Int), fun _ x => x = .int .i64 255, fun _ x => x = .pointer (some ⟨B5, 2, none⟩), fun _ x => x = .pointer (some ⟨B5, 3, none⟩), fun _ x => x = .int .i64 cH, fun _ x => x = .pointer (some ⟨B5, 2, none⟩), fun _ x => x = .pointer (some ⟨B5, 2, none⟩), fun _ x => x = .int .i64 cL, fun _ x => x = .int .i64 (cH - cL), fun _ x => x = .int .i64 (255 * (cH - cL)), fun _ x => x = .int .i64 (cH - cL), fun _ x => x = .int .i64 cH] (by rfl) (by kernel_rfl) (by kernel_rfl) (by kernel_rfl) (stays_cons (Stays.eq _) (stays_cons (Stays.eq _) (stays_cons (Stays.eq _) (stays_cons (Stays.eq _) (stays_cons (Stays.eq _) (stays_cons (Stays.eq _) (stays_cons (Stays.eq _) (stays_cons (Stays.eq _) (stays_cons (Stays.eq _) (stays_cons (Stays.eq _) (stays_cons (Stays.eq _) (stays_cons (Stays.eq _) (stays_cons (Stays.eq _) (stays_cons (Stays.eq _) (stays_cons (Stays.eq _) (stays_cons (Stays.eq _) (stays_cons (Stays.eq _) (stays_cons (Stays.eq _) (stays_cons (Stays.eq _) stays_nil))))))))))))))))))) ?step9_1 ?fin9_1
            case step9_1 =>
              rintro i hi x v gv hd K hK
              have hi8 : i = 0 ∨ i = 1 ∨ i = 2 ∨ i = 3 ∨ i = 4 ∨ i = 5 ∨ i = 6 ∨ i = 7 ∨ i = 8 ∨ i = 9 ∨ i = 10 ∨ i = 11 ∨ i = 12 ∨ i = 13 ∨ i = 14 ∨ i = 15 ∨ i = 16 ∨ i = 17 ∨ i = 18 := by omega
              rcases hi8 with rfl | rfl | rfl | rfl | rfl | rfl | rfl | rfl | rfl | rfl | rfl | rfl | rfl | rfl | rfl | rfl | rfl | rfl | rfl
              · show wpOp Try.prog _ _ 0 K (⟨#[_, _, _, _, _, _, _, _, _, _, _, _, _, _, _, _, _, _, _, _, _, _, _, _, _, _, _, _, _, _, _, _, _, _, _, _, _, _, _, _, _, _, _, _, _, _, _, _, _, _, _, _, _, _, _, _, _, _, _, _, _, _, _, _, _, _, _, _, _, _, _, _, _, _, _, _, _, _, _, _, _, _, _, _, _, _, _, _, _, x 0, x 1, x 2, x 3, x 4, x 5, x 6, x 7, x 8, x 9, x 10, x 11, x 12, x 13, x 14, x 15, x 16, x 17, x 18, _, _, _, _, _, _, _, _, _, _, _, _, _, _, _, _, _, _, _, _, _, _, _, _, _, _, _, _, _, _, _, _, _, _, _, _, _, _, _, _, _, _, _, _, _, _, _, _, _, _, _, _, _, _, _, _, _, _, _, _, _, _, _, _, _, _, _, _, _, _, _, _, _, _, _, _, _, _, _, _, _, _, _, _, _, _, _, _, _, _, _, _, _, _, _, _, _, _, _, _, _, _, _, _, _, _, _, _, _, _, _, _, _, _, _, _, _, _, _, _, _, _, _, _, _, _, _, _, _, _, _, _, _, _, _, _, _, _, _, _, _, _], []⟩ : Act) v
                refine wpOp_step rfl (fun K' hK' => ?_)
                go_simp
                exact hK' _ _ (hK _ _ (Below.refl _ _) (at_of rfl (rfl)))
              · obtain ⟨x, rfl⟩ := upd_of (show x 0 = .pointer (some ⟨B5, 2, none⟩) from hd 0 _ (by simp) rfl)
                show wpOp Try.prog _ _ 1 K (⟨#[_, _, _, _, _, _, _, _, _, _, _, _, _, _, _, _, _, _, _, _, _, _, _, _, _, _, _, _, _, _, _, _, _, _, _, _, _, _, _, _, _, _, _, _, _, _, _, _, _, _, _, _, _, _, _, _, _, _, _, _, _, _, _, _, _, _, _, _, _, _, _, _, _, _, _, _, _, _, _, _, _, _, _, _, _, _, _, _, _, .pointer (some ⟨B5, 2, none⟩), x 1, x 2, x 3, x 4, x 5, x 6, x 7, x 8, x 9, x 10, x 11, x 12, x 13, x 14, x 15, x 16, x 17, x 18, _, _, _, _, _, _, _, _, _, _, _, _, _, _, _, _, _, _, _, _, _, _, _, _, _, _, _, _, _, _, _, _, _, _, _, _, _, _, _, _, _, _, _, _, _, _, _, _, _, _, _, _, _, _, _, _, _, _, _, _, _, _, _, _, _, _, _, _, _, _, _, _, _, _, _, _, _, _, _, _, _, _, _, _, _, _, _, _, _, _, _, _, _, _, _, _, _, _, _, _, _, _, _, _, _, _, _, _, _, _, _, _, _, _, _, _, _, _, _, _, _, _, _, _, _, _, _, _, _, _, _, _, _, _, _, _, _, _, _, _, _, _], []⟩ : Act) v
                refine wpOp_step rfl (fun K' hK' => ?_)
                go_simp
                exact hK' _ _ (hK _ _ (Below.refl _ _) (at_of rfl (rfl)))
              · obtain ⟨x, rfl⟩ := upd_of (show x 1 = .pointer (some ⟨B5, 2, none⟩) from hd 1 _ (by simp) rfl)
                show wpOp Try.prog _ _ 2 K (⟨#[_, _, _, _, _, _, _, _, _, _, _, _, _, _, _, _, _, _, _, _, _, _, _, _, _, _, _, _, _, _, _, _, _, _, _, _, _, _, _, _, _, _, _, _, _, _, _, _, _, _, _, _, _, _, _, _, _, _, _, _, _, _, _, _, _, _, _, _, _, _, _, _, _, _, _, _, _, _, _, _, _, _, _, _, _, _, _, _, _, x 0, .pointer (some ⟨B5, 2, none⟩), x 2, x 3, x 4, x 5, x 6, x 7, x 8, x 9, x 10, x 11, x 12, x 13, x 14, x 15, x 16, x 17, x 18, _, _, _, _, _, _, _, _, _, _, _, _, _, _, _, _, _, _, _, _, _, _, _, _, _, _, _, _, _, _, _, _, _, _, _, _, _, _, _, _, _, _, _, _, _, _, _, _, _, _, _, _, _, _, _, _, _, _, _, _, _, _, _, _, _, _, _, _, _, _, _, _, _, _, _, _, _, _, _, _, _, _, _, _, _, _, _, _, _, _, _, _, _, _, _, _, _, _, _, _, _, _, _, _, _, _, _, _, _, _, _, _, _, _, _, _, _, _, _, _, _, _, _, _, _, _, _, _, _, _, _, _, _, _, _, _, _, _, _, _, _, _], []⟩ : Act) v
                refine wpOp_step rfl (fun K' hK' => ?_)
                have q := gv.keep p2
                go_simp
                exact hK' _ _ (hK _ _ (Below.refl _ _) (at_of rfl (rfl)))
              · show wpOp Try.prog _ _ 3 K (⟨#[_, _, _, _, _, _, _, _, _, _, _, _, _, _, _, _, _, _, _, _, _, _, _, _, _, _, _, _, _, _, _, _, _, _, _, _, _, _, _, _, _, _, _, _, _, _, _, _, _, _, _, _, _, _, _, _, _, _, _, _, _, _, _, _, _, _, _, _, _, _, _, _, _, _, _, _, _, _, _, _, _, _, _, _, _, _, _, _, _, x 0, x 1, x 2, x 3, x 4, x 5, x 6, x 7, x 8, x 9, x 10, x 11, x 12, x 13, x 14, x 15, x 16, x 17, x 18, _, _, _, _, _, _, _, _, _, _, _, _, _, _, _, _, _, _, _, _, _, _, _, _, _, _, _, _, _, _, _, _, _, _, _, _, _, _, _, _, _, _, _, _, _, _, _, _, _, _, _, _, _, _, _, _, _, _, _, _, _, _, _, _, _, _, _, _, _, _, _, _, _, _, _, _, _, _, _, _, _, _, _, _, _, _, _, _, _, _, _, _, _, _, _, _, _, _, _, _, _, _, _, _, _, _, _, _, _, _, _, _, _, _, _, _, _, _, _, _, _, _, _, _, _, _, _, _, _, _, _, _, _, _, _, _, _, _, _, _, _, _], []⟩ : Act) v
                refine wpOp_step rfl (fun K' hK' => ?_)
                go_simp
                exact hK' _ _ (hK _ _ (Below.refl _ _) (at_of rfl (rfl)))
              · obtain ⟨x, rfl⟩ := upd_of (show x 3 = .pointer (some ⟨(w.heap.size + 1), 1, none⟩) from hd 3 _ (by simp) rfl)
                show wpOp Try.prog _ _ 4 K (⟨#[_, _, _, _, _, _, _, _, _, _, _, _, _, _, _, _, _, _, _, _, _, _, _, _, _, _, _, _, _, _, _, _, _, _, _, _, _, _, _, _, _, _, _, _, _, _, _, _, _, _, _, _, _, _, _, _, _, _, _, _, _, _, _, _, _, _, _, _, _, _, _, _, _, _, _, _, _, _, _, _, _, _, _, _, _, _, _, _, _, x 0, x 1, x 2, .pointer (some ⟨(w.heap.size + 1), 1, none⟩), x 4, x 5, x 6, x 7, x 8, x 9, x 10, x 11, x 12, x 13, x 14, x 15, x 16, x 17, x 18, _, _, _, _, _, _, _, _, _, _, _, _, _, _, _, _, _, _, _, _, _, _, _, _, _, _, _, _, _, _, _, _, _, _, _, _, _, _, _, _, _, _, _, _, _, _, _, _, _, _, _, _, _, _, _, _, _, _, _, _, _, _, _, _, _, _, _, _, _, _, _, _, _, _, _, _, _, _, _, _, _, _, _, _, _, _, _, _, _, _, _, _, _, _, _, _, _, _, _, _, _, _, _, _, _, _, _, _, _, _, _, _, _, _, _, _, _, _, _, _, _, _, _, _, _, _, _, _, _, _, _, _, _, _, _, _, _, _, _, _, _, _], []⟩ : Act) v
                refine wpOp_step rfl (fun K' hK' => ?_)
                have q := gv.keep t1
                go_simp
                exact hK' _ _ (hK _ _ (Below.refl _ _) (at_of rfl (rfl)))
              · obtain ⟨x, rfl⟩ := upd_of (show x 4 = .int .u8 y1 from hd 4 _ (by simp) rfl)
                show wpOp Try.prog _ _ 5 K (⟨#[_, _, _, _, _, _, _, _, _, _, _, _, _, _, _, _, _, _, _, _, _, _, _, _, _, _, _, _, _, _, _, _, _, _, _, _, _, _, _, _, _, _, _, _, _, _, _, _, _, _, _, _, _, _, _, _, _, _, _, _, _, _, _, _, _, _, _, _, _, _, _, _, _, _, _, _, _, _, _, _, _, _, _, _, _, _, _, _, _, x 0, x 1, x 2, x 3, .int .u8 y1, x 5, x 6, x 7, x 8, x 9, x 10, x 11, x 12, x 13, x 14, x 15, x 16, x 17, x 18, _, _, _, _, _, _, _, _, _, _, _, _, _, _, _, _, _, _, _, _, _, _, _, _, _, _, _, _, _, _, _, _, _, _, _, _, _, _, _, _, _, _, _, _, _, _, _, _, _, _, _, _, _, _, _, _, _, _, _, _, _, _, _, _, _, _, _, _, _, _, _, _, _, _, _, _, _, _, _, _, _, _, _, _, _, _, _, _, _, _, _, _, _, _, _, _, _, _, _, _, _, _, _, _, _, _, _, _, _, _, _, _, _, _, _, _, _, _, _, _, _, _, _, _, _, _, _, _, _, _, _, _, _, _, _, _, _, _, _, _, _, _], []⟩ : Act) v
                refine wpOp_step rfl (fun K' hK' => ?_)
                go_simp
                exact hK' _ _ (hK _ _ (Below.refl _ _) (at_of rfl (rfl)))
              · obtain ⟨x, rfl⟩ := upd_of (show x 5 = .int .i64 y1 from hd 5 _ (by simp) rfl)
                show wpOp Try.prog _ _ 6 K (⟨#[_, _, _, _, _, _, _, _, _, _, _, _, _, _, _, _, _, _, _, _, _, _, _, _, _, _, _, _, _, _, _, _, _, _, _, _, _, _, _, _, _, _, _, _, _, _, _, _, _, _, _, _, _, _, _, _, _, _, _, _, _, _, _, _, _, _, _, _, _, _, _, _, _, _, _, _, _, _, _, _, _, _, _, _, _, _, _, _, _, x 0, x 1, x 2, x 3, x 4, .int .i64 y1, x 6, x 7, x 8, x 9, x 10, x 11, x 12, x 13, x 14, x 15, x 16, x 17, x 18, _, _, _, _, _, _, _, _, _, _, _, _, _, _, _, _, _, _, _, _, _, _, _, _, _, _, _, _, _, _, _, _, _, _, _, _, _, _, _, _, _, _, _, _, _, _, _, _, _, _, _, _, _, _, _, _, _, _, _, _, _, _, _, _, _, _, _, _, _, _, _, _, _, _, _, _, _, _, _, _, _, _, _, _, _, _, _, _, _, _, _, _, _, _, _, _, _, _, _, _, _, _, _, _, _, _, _, _, _, _, _, _, _, _, _, _, _, _, _, _, _, _, _, _, _, _, _, _, _, _, _, _, _, _, _, _, _, _, _, _, _, _], []⟩ : Act) v
                refine wpOp_step rfl (fun K' hK' => ?_)
                go_simp
                exact hK' _ _ (hK _ _ (Below.refl _ _) (at_of rfl (rfl)))
              · show wpOp Try.prog _ _ 7 K (⟨#[_, _, _, _, _, _, _, _, _, _, _, _, _, _, _, _, _, _, _, _, _, _, _, _, _, _, _, _, _, _, _, _, _, _, _, _, _, _, _, _, _, _, _, _, _, _, _, _, _, _, _, _, _, _, _, _, _, _, _, _, _, _, _, _, _, _, _, _, _, _, _, _, _, _, _, _, _, _, _, _, _, _, _, _, _, _, _, _, _, x 0, x 1, x 2, x 3, x 4, x 5, x 6, x 7, x 8, x 9, x 10, x 11, x 12, x 13, x 14, x 15, x 16, x 17, x 18, _, _, _, _, _, _, _, _, _, _, _, _, _, _, _, _, _, _, _, _, _, _, _, _, _, _, _, _, _, _, _, _, _, _, _, _, _, _, _, _, _, _, _, _, _, _, _, _, _, _, _, _, _, _, _, _, _, _, _, _, _, _, _, _, _, _, _, _, _, _, _, _, _, _, _, _, _, _, _, _, _, _, _, _, _, _, _, _, _, _, _, _, _, _, _, _, _, _, _, _, _, _, _, _, _, _, _, _, _, _, _, _, _, _, _, _, _, _, _, _, _, _, _, _, _, _, _, _, _, _, _, _, _, _, _, _, _, _, _, _, _, _], []⟩ : Act) v
                refine wpOp_step rfl (fun K' hK' => ?_)
                go_simp
                exact hK' _ _ (hK _ _ (Below.refl _ _) (at_of rfl (rfl)))
              · obtain ⟨x, rfl⟩ := upd_of (show x 6 = .agg #[.int .i64 0, .int .i64 255, .int .i64 y1] from hd 6 _ (by simp) rfl)
                obtain ⟨x, rfl⟩ := upd_of (show x 7 = .int .i64 ((1 : Nat) : Int) from hd 7 _ (by simp) rfl)
                show wpOp Try.prog _ _ 8 K (⟨#[_, _, _, _, _, _, _, _, _, _, _, _, _, _, _, _, _, _, _, _, _, _, _, _, _, _, _, _, _, _, _, _, _, _, _, _, _, _, _, _, _, _, _, _, _, _, _, _, _, _, _, _, _, _, _, _, _, _, _, _, _, _, _, _, _, _, _, _, _, _, _, _, _, _, _, _, _, _, _, _, _, _, _, _, _, _, _, _, _, x 0, x 1, x 2, x 3, x 4, x 5, .agg #[.int .i64 0, .int .i64 255, .int .i64 y1], .int .i64 ((1 : Nat) : Int), x 8, x 9, x 10, x 11, x 12, x 13, x 14, x 15, x 16, x 17, x 18, _, _, _, _, _, _, _, _, _, _, _, _, _, _, _, _, _, _, _, _, _, _, _, _, _, _, _, _, _, _, _, _, _, _, _, _, _, _, _, _, _, _, _, _, _, _, _, _, _, _, _, _, _, _, _, _, _, _, _, _, _, _, _, _, _, _, _, _, _, _, _, _, _, _, _, _, _, _, _, _, _, _, _, _, _, _, _, _, _, _, _, _, _, _, _, _, _, _, _, _, _, _, _, _, _, _, _, _, _, _, _, _, _, _, _, _, _, _, _, _, _, _, _, _, _, _, _, _, _, _, _, _, _, _, _, _, _, _, _, _, _, _], []⟩ : Act) v
                refine wpOp_step rfl (fun K' hK' => ?_)
                go_simp
                exact hK' _ _ (hK _ _ (Below.refl _ _) (at_of rfl (rfl)))
              · show wpOp Try.prog _ _ 9 K (⟨#[_, _, _, _, _, _, _, _, _, _, _, _, _, _, _, _, _, _, _, _, _, _, _, _, _, _, _, _, _, _, _, _, _, _, _, _, _, _, _, _, _, _, _, _, _, _, _, _, _, _, _, _, _, _, _, _, _, _, _, _, _, _, _, _, _, _, _, _, _, _, _, _, _, _, _, _, _, _, _, _, _, _, _, _, _, _, _, _, _, x 0, x 1, x 2, x 3, x 4, x 5, x 6, x 7, x 8, x 9, x 10, x 11, x 12, x 13, x 14, x 15, x 16, x 17, x 18, _, _, _, _, _, _, _, _, _, _, _, _, _, _, _, _, _, _, _, _, _, _, _, _, _, _, _, _, _, _, _, _, _, _, _, _, _, _, _, _, _, _, _, _, _, _, _, _, _, _, _, _, _, _, _, _, _, _, _, _, _, _, _, _, _, _, _, _, _, _, _, _, _, _, _, _, _, _, _, _, _, _, _, _, _, _, _, _, _, _, _, _, _, _, _, _, _, _, _, _, _, _, _, _, _, _, _, _, _, _, _, _, _, _, _, _, _, _, _, _, _, _, _, _, _, _, _, _, _, _, _, _, _, _, _, _, _, _, _, _, _, _], []⟩ : Act) v
                refine wpOp_step rfl (fun K' hK' => ?_)
                go_simp
                exact hK' _ _ (hK _ _ (Below.refl _ _) (at_of rfl (rfl)))
              · obtain ⟨x, rfl⟩ := upd_of (show x 9 = .pointer (some ⟨B5, 2, none⟩) from hd 9 _ (by simp) rfl)
                show wpOp Try.prog _ _ 10 K (⟨#[_, _, _, _, _, _, _, _, _, _, _, _, _, _, _, _, _, _, _, _, _, _, _, _, _, _, _, _, _, _, _, _, _, _, _, _, _, _, _, _, _, _, _, _, _, _, _, _, _, _, _, _, _, _, _, _, _, _, _, _, _, _, _, _, _, _, _, _, _, _, _, _, _, _, _, _, _, _, _, _, _, _, _, _, _, _, _, _, _, x 0, x 1, x 2, x 3, x 4, x 5, x 6, x 7, x 8, .pointer (some ⟨B5, 2, none⟩), x 10, x 11, x 12, x 13, x 14, x 15, x 16, x 17, x 18, _, _, _, _, _, _, _, _, _, _, _, _, _, _, _, _, _, _, _, _, _, _, _, _, _, _, _, _, _, _, _, _, _, _, _, _, _, _, _, _, _, _, _, _, _, _, _, _, _, _, _, _, _, _, _, _, _, _, _, _, _, _, _, _, _, _, _, _, _, _, _, _, _, _, _, _, _, _, _, _, _, _, _, _, _, _, _, _, _, _, _, _, _, _, _, _, _, _, _, _, _, _, _, _, _, _, _, _, _, _, _, _, _, _, _, _, _, _, _, _, _, _, _, _, _, _, _, _, _, _, _, _, _, _, _, _, _, _, _, _, _, _], []⟩ : Act) v
                refine wpOp_step rfl (fun K' hK' => ?_)
                go_simp
                exact hK' _ _ (hK _ _ (Below.refl _ _) (at_of rfl (rfl)))
              · obtain ⟨x, rfl⟩ := upd_of (show x 10 = .pointer (some ⟨B5, 3, none⟩) from hd 10 _ (by simp) rfl)
                show wpOp Try.prog _ _ 11 K (⟨#[_, _, _, _, _, _, _, _, _, _, _, _, _, _, _, _, _, _, _, _, _, _, _, _, _, _, _, _, _, _, _, _, _, _, _, _, _, _, _, _, _, _, _, _, _, _, _, _, _, _, _, _, _, _, _, _, _, _, _, _, _, _, _, _, _, _, _, _, _, _, _, _, _, _, _, _, _, _, _, _, _, _, _, _, _, _, _, _, _, x 0, x 1, x 2, x 3, x 4, x 5, x 6, x 7, x 8, x 9, .pointer (some ⟨B5, 3, none⟩), x 11, x 12, x 13, x 14, x 15, x 16, x 17, x 18, _, _, _, _, _, _, _, _, _, _, _, _, _, _, _, _, _, _, _, _, _, _, _, _, _, _, _, _, _, _, _, _, _, _, _, _, _, _, _, _, _, _, _, _, _, _, _, _, _, _, _, _, _, _, _, _, _, _, _, _, _, _, _, _, _, _, _, _, _, _, _, _, _, _, _, _, _, _, _, _, _, _, _, _, _, _, _, _, _, _, _, _, _, _, _, _, _, _, _, _, _, _, _, _, _, _, _, _, _, _, _, _, _, _, _, _, _, _, _, _, _, _, _, _, _, _, _, _, _, _, _, _, _, _, _, _, _, _, _, _, _, _], []⟩ : Act) v
                refine wpOp_step rfl (fun K' hK' => ?_)
                have q := gv.keep p3
                go_simp
                exact hK' _ _ (hK _ _ (Below.refl _ _) (at_of rfl (rfl)))
              · show wpOp Try.prog _ _ 12 K (⟨#[_, _, _, _, _, _, _, _, _, _, _, _, _, _, _, _, _, _, _, _, _, _, _, _, _, _, _, _, _, _, _, _, _, _, _, _, _, _, _, _, _, _, _, _, _, _, _, _, _, _, _, _, _, _, _, _, _, _, _, _, _, _, _, _, _, _, _, _, _, _, _, _, _, _, _, _, _, _, _, _, _, _, _, _, _, _, _, _, _, x 0, x 1, x 2, x 3, x 4, x 5, x 6, x 7, x 8, x 9, x 10, x 11, x 12, x 13, x 14, x 15, x 16, x 17, x 18, _, _, _, _, _, _, _, _, _, _, _, _, _, _, _, _, _, _, _, _, _, _, _, _, _, _, _, _, _, _, _, _, _, _, _, _, _, _, _, _, _, _, _, _, _, _, _, _, _, _, _, _, _, _, _, _, _, _, _, _, _, _, _, _, _, _, _, _, _, _, _, _, _, _, _, _, _, _, _, _, _, _, _, _, _, _, _, _, _, _, _, _, _, _, _, _, _, _, _, _, _, _, _, _, _, _, _, _, _, _, _, _, _, _, _, _, _, _, _, _, _, _, _, _, _, _, _, _, _, _, _, _, _, _, _, _, _, _, _, _, _, _], []⟩ : Act) v
                refine wpOp_step rfl (fun K' hK' => ?_)
                go_simp
                exact hK' _ _ (hK _ _ (Below.refl _ _) (at_of rfl (rfl)))
              · obtain ⟨x, rfl⟩ := upd_of (show x 12 = .pointer (some ⟨B5, 2, none⟩) from hd 12 _ (by simp) rfl)
                show wpOp Try.prog _ _ 13 K (⟨#[_, _, _, _, _, _, _, _, _, _, _, _, _, _, _, _, _, _, _, _, _, _, _, _, _, _, _, _, _, _, _, _, _, _, _, _, _, _, _, _, _, _, _, _, _, _, _, _, _, _, _, _, _, _, _, _, _, _, _, _, _, _, _, _, _, _, _, _, _, _, _, _, _, _, _, _, _, _, _, _, _, _, _, _, _, _, _, _, _, x 0, x 1, x 2, x 3, x 4, x 5, x 6, x 7, x 8, x 9, x 10, x 11, .pointer (some ⟨B5, 2, none⟩), x 13, x 14, x 15, x 16, x 17, x 18, _, _, _, _, _, _, _, _, _, _, _, _, _, _, _, _, _, _, _, _, _, _, _, _, _, _, _, _, _, _, _, _, _, _, _, _, _, _, _, _, _, _, _, _, _, _, _, _, _, _, _, _, _, _, _, _, _, _, _, _, _, _, _, _, _, _, _, _, _, _, _, _, _, _, _, _, _, _, _, _, _, _, _, _, _, _, _, _, _, _, _, _, _, _, _, _, _, _, _, _, _, _, _, _, _, _, _, _, _, _, _, _, _, _, _, _, _, _, _, _, _, _, _, _, _, _, _, _, _, _, _, _, _, _, _, _, _, _, _, _, _, _], []⟩ : Act) v
                refine wpOp_step rfl (fun K' hK' => ?_)
                go_simp
                exact hK' _ _ (hK _ _ (Below.refl _ _) (at_of rfl (rfl)))
              · obtain ⟨x, rfl⟩ := upd_of (show x 13 = .pointer (some ⟨B5, 2, none⟩) from hd 13 _ (by simp) rfl)
                show wpOp Try.prog _ _ 14 K (⟨#[_, _, _, _, _, _, _, _, _, _, _, _, _, _, _, _, _, _, _, _, _, _, _, _, _, _, _, _, _, _, _, _, _, _, _, _, _, _, _, _, _, _, _, _, _, _, _, _, _, _, _, _, _, _, _, _, _, _, _, _, _, _, _, _, _, _, _, _, _, _, _, _, _, _, _, _, _, _, _, _, _, _, _, _, _, _, _, _, _, x 0, x 1, x 2, x 3, x 4, x 5, x 6, x 7, x 8, x 9, x 10, x 11, x 12, .pointer (some ⟨B5, 2, none⟩), x 14, x 15, x 16, x 17, x 18, _, _, _, _, _, _, _, _, _, _, _, _, _, _, _, _, _, _, _, _, _, _, _, _, _, _, _, _, _, _, _, _, _, _, _, _, _, _, _, _, _, _, _, _, _, _, _, _, _, _, _, _, _, _, _, _, _, _, _, _, _, _, _, _, _, _, _, _, _, _, _, _, _, _, _, _, _, _, _, _, _, _, _, _, _, _, _, _, _, _, _, _, _, _, _, _, _, _, _, _, _, _, _, _, _, _, _, _, _, _, _, _, _, _, _, _, _, _, _, _, _, _, _, _, _, _, _, _, _, _, _, _, _, _, _, _, _, _, _, _, _, _], []⟩ : Act) v
                refine wpOp_step rfl (fun K' hK' => ?_)
                have q := gv.keep p2
                go_simp
                exact hK' _ _ (hK _ _ (Below.refl _ _) (at_of rfl (rfl)))
              · obtain ⟨x, rfl⟩ := upd_of (show x 11 = .int .i64 cH from hd 11 _ (by simp) rfl)
                obtain ⟨x, rfl⟩ := upd_of (show x 14 = .int .i64 cL from hd 14 _ (by simp) rfl)
                show wpOp Try.prog _ _ 15 K (⟨#[_, _, _, _, _, _, _, _, _, _, _, _, _, _, _, _, _, _, _, _, _, _, _, _, _, _, _, _, _, _, _, _, _, _, _, _, _, _, _, _, _, _, _, _, _, _, _, _, _, _, _, _, _, _, _, _, _, _, _, _, _, _, _, _, _, _, _, _, _, _, _, _, _, _, _, _, _, _, _, _, _, _, _, _, _, _, _, _, _, x 0, x 1, x 2, x 3, x 4, x 5, x 6, x 7, x 8, x 9, x 10, .int .i64 cH, x 12, x 13, .int .i64 cL, x 15, x 16, x 17, x 18, _, _, _, _, _, _, _, _, _, _, _, _, _, _, _, _, _, _, _, _, _, _, _, _, _, _, _, _, _, _, _, _, _, _, _, _, _, _, _, _, _, _, _, _, _, _, _, _, _, _, _, _, _, _, _, _, _, _, _, _, _, _, _, _, _, _, _, _, _, _, _, _, _, _, _, _, _, _, _, _, _, _, _, _, _, _, _, _, _, _, _, _, _, _, _, _, _, _, _, _, _, _, _, _, _, _, _, _, _, _, _, _, _, _, _, _, _, _, _, _, _, _, _, _, _, _, _, _, _, _, _, _, _, _, _, _, _, _, _, _, _, _], []⟩ : Act) v
                refine wpOp_step rfl (fun K' hK' => ?_)
                go_simp
                exact hK' _ _ (hK _ _ (Below.refl _ _) (at_of rfl (rfl)))
              · obtain ⟨x, rfl⟩ := upd_of (show x 8 = .int .i64 255 from hd 8 _ (by simp) rfl)
                obtain ⟨x, rfl⟩ := upd_of (show x 15 = .int .i64 (cH - cL) from hd 15 _ (by simp) rfl)
                show wpOp Try.prog _ _ 16 K (⟨#[_, _, _, _, _, _, _, _, _, _, _, _, _, _, _, _, _, _, _, _, _, _, _, _, _, _, _, _, _, _, _, _, _, _, _, _, _, _, _, _, _, _, _, _, _, _, _, _, _, _, _, _, _, _, _, _, _, _, _, _, _, _, _, _, _, _, _, _, _, _, _, _, _, _, _, _, _, _, _, _, _, _, _, _, _, _, _, _, _, x 0, x 1, x 2, x 3, x 4, x 5, x 6, x 7, .int .i64 255, x 9, x 10, x 11, x 12, x 13, x 14, .int .i64 (cH - cL), x 16, x 17, x 18, _, _, _, _, _, _, _, _, _, _, _, _, _, _, _, _, _, _, _, _, _, _, _, _, _, _, _, _, _, _, _, _, _, _, _, _, _, _, _, _, _, _, _, _, _, _, _, _, _, _, _, _, _, _, _, _, _, _, _, _, _, _, _, _, _, _, _, _, _, _, _, _, _, _, _, _, _, _, _, _, _, _, _, _, _, _, _, _, _, _, _, _, _, _, _, _, _, _, _, _, _, _, _, _, _, _, _, _, _, _, _, _, _, _, _, _, _, _, _, _, _, _, _, _, _, _, _, _, _, _, _, _, _, _, _, _, _, _, _, _, _, _], []⟩ : Act) v
                refine wpOp_step rfl (fun K' hK' => ?_)
                go_simp
                exact hK' _ _ (hK _ _ (Below.refl _ _) (at_of rfl (rfl)))
              · obtain ⟨x, rfl⟩ := upd_of (show x 16 = .int .i64 (255 * (cH - cL)) from hd 16 _ (by simp) rfl)
                show wpOp Try.prog _ _ 17 K (⟨#[_, _, _, _, _, _, _, _, _, _, _, _, _, _, _, _, _, _, _, _, _, _, _, _, _, _, _, _, _, _, _, _, _, _, _, _, _, _, _, _, _, _, _, _, _, _, _, _, _, _, _, _, _, _, _, _, _, _, _, _, _, _, _, _, _, _, _, _, _, _, _, _, _, _, _, _, _, _, _, _, _, _, _, _, _, _, _, _, _, x 0, x 1, x 2, x 3, x 4, x 5, x 6, x 7, x 8, x 9, x 10, x 11, x 12, x 13, x 14, x 15, .int .i64 (255 * (cH - cL)), x 17, x 18, _, _, _, _, _, _, _, _, _, _, _, _, _, _, _, _, _, _, _, _, _, _, _, _, _, _, _, _, _, _, _, _, _, _, _, _, _, _, _, _, _, _, _, _, _, _, _, _, _, _, _, _, _, _, _, _, _, _, _, _, _, _, _, _, _, _, _, _, _, _, _, _, _, _, _, _, _, _, _, _, _, _, _, _, _, _, _, _, _, _, _, _, _, _, _, _, _, _, _, _, _, _, _, _, _, _, _, _, _, _, _, _, _, _, _, _, _, _, _, _, _, _, _, _, _, _, _, _, _, _, _, _, _, _, _, _, _, _, _, _, _, _], []⟩ : Act) v
                refine wpOp_step rfl (fun K' hK' => ?_)
                go_simp
                exact hK' _ _ (hK _ _ (Below.refl _ _) (at_of rfl (rfl)))
              · obtain ⟨x, rfl⟩ := upd_of (show x 2 = .int .i64 cL from hd 2 _ (by simp) rfl)
                obtain ⟨x, rfl⟩ := upd_of (show x 17 = .int .i64 (cH - cL) from hd 17 _ (by simp) rfl)
                show wpOp Try.prog _ _ 18 K (⟨#[_, _, _, _, _, _, _, _, _, _, _, _, _, _, _, _, _, _, _, _, _, _, _, _, _, _, _, _, _, _, _, _, _, _, _, _, _, _, _, _, _, _, _, _, _, _, _, _, _, _, _, _, _, _, _, _, _, _, _, _, _, _, _, _, _, _, _, _, _, _, _, _, _, _, _, _, _, _, _, _, _, _, _, _, _, _, _, _, _, x 0, x 1, .int .i64 cL, x 3, x 4, x 5, x 6, x 7, x 8, x 9, x 10, x 11, x 12, x 13, x 14, x 15, x 16, .int .i64 (cH - cL), x 18, _, _, _, _, _, _, _, _, _, _, _, _, _, _, _, _, _, _, _, _, _, _, _, _, _, _, _, _, _, _, _, _, _, _, _, _, _, _, _, _, _, _, _, _, _, _, _, _, _, _, _, _, _, _, _, _, _, _, _, _, _, _, _, _, _, _, _, _, _, _, _, _, _, _, _, _, _, _, _, _, _, _, _, _, _, _, _, _, _, _, _, _, _, _, _, _, _, _, _, _, _, _, _, _, _, _, _, _, _, _, _, _, _, _, _, _, _, _, _, _, _, _, _, _, _, _, _, _, _, _, _, _, _, _, _, _, _, _, _, _, _, _], []⟩ : Act) v
                refine wpOp_step rfl (fun K' hK' => ?_)
                go_simp
                exact hK' _ _ (hK _ _ (Below.refl _ _) (at_of rfl (rfl)))
            case fin9_1 =>
              rintro x v gv hd
              obtain ⟨x, rfl⟩ := upd_of (show x 18 = .int .i64 cH from hd 18 _ (by omega) rfl)
              clear hd
              show wpList Try.prog _ _ (List.drop 19 _) (⟨#[_, _, _, _, _, _, _, _, _, _, _, _, _, _, _, _, _, _, _, _, _, _, _, _, _, _, _, _, _, _, _, _, _, _, _, _, _, _, _, _, _, _, _, _, _, _, _, _, _, _, _, _, _, _, _, _, _, _, _, _, _, _, _, _, _, _, _, _, _, _, _, _, _, _, _, _, _, _, _, _, _, _, _, _, _, _, _, _, _, x 0, x 1, x 2, x 3, x 4, x 5, x 6, x 7, x 8, x 9, x 10, x 11, x 12, x 13, x 14, x 15, x 16, x 17, .int .i64 cH, _, _, _, _, _, _, _, _, _, _, _, _, _, _, _, _, _, _, _, _, _, _, _, _, _, _, _, _, _, _, _, _, _, _, _, _, _, _, _, _, _, _, _, _, _, _, _, _, _, _, _, _, _, _, _, _, _, _, _, _, _, _, _, _, _, _, _, _, _, _, _, _, _, _, _, _, _, _, _, _, _, _, _, _, _, _, _, _, _, _, _, _, _, _, _, _, _, _, _, _, _, _, _, _, _, _, _, _, _, _, _, _, _, _, _, _, _, _, _, _, _, _, _, _, _, _, _, _, _, _, _, _, _, _, _, _, _, _, _, _, _, _], []⟩ : Act) v
              simp only [List.drop_succ_cons, List.drop_zero]
              have hS := hS.keep gv
              clear gv t1 p2 p3 d0 d1 kE kC k9 k8
              go_upto_region 10 with fail
              obtain ⟨N0, hN0⟩ : ∃ N, cH * ar = N := ⟨_, rfl⟩
              have n0 : 0 ≤ N0 := by rw [← hN0]; exact Int.mul_nonneg (by omega) (by omega)
              have n1 : N0 ≤ 10000 * 15000 := by rw [← hN0]; exact Int.mul_le_mul (by omega) (by omega) (by omega) (by omega)
              obtain ⟨r0, r1, r2⟩ := rootL_spec n0
              obtain ⟨_, r3⟩ := rootL_small n0 (by omega)
              have hroot : strongB ar 100 1000 cH = rootL N0 := by rw [strongB_root, hN0]
              obtain ⟨r, hr⟩ : ∃ r, rootL N0 = r := ⟨_, rfl⟩
              rw [hr] at r0 r1 r2 r3 hroot
              have rr0 : 0 ≤ r * r := Int.mul_nonneg r0 r0
              have rr1 : (r + 1) * (r + 1) = r * r + 2 * r + 1 := by rw [Int.add_mul, Int.mul_add]; omega
              have hT : strongB ar ru eH cH = S1 := HS1.out
              have bk1 : boxOk eH eH cH cH ar ru = true := by
                simp only [boxOk, okSpan, inB, in1, List.all_cons, List.all_nil, Bool.and_true, Bool.and_eq_true, decide_eq_true_eq]
                omega
              have bk2 : boxOk 1000 1000 cH cH ar 100 = true := by
                simp only [boxOk, okSpan, inB, in1, List.all_cons, List.all_nil, Bool.and_true, Bool.and_eq_true, decide_eq_true_eq]
                omega
              have cT : ∀ W, Calls Try.prog 29 #[.agg #[.int .i64 eH, .int .i64 eH, .int .i64 cH, .int .i64 cH, .int .i64 ar, .int .i64 ru]] W fun e w' => e = .returned (.tuple #[.agg #[.int .i64 S1, .int .i64 S1], .int .i64 0]) ∧ Gr W w' := fun W => by
                have := crushStrength_ok eH eH cH cH ar ru bk1 W
                rw [hT] at this
                exact this
              have cR : ∀ W, Calls Try.prog 29 #[.agg #[.int .i64 1000, .int .i64 1000, .int .i64 cH, .int .i64 cH, .int .i64 ar, .int .i64 100]] W fun e w' => e = .returned (.tuple #[.agg #[.int .i64 r, .int .i64 r], .int .i64 0]) ∧ Gr W w' := fun W => by
                have := crushStrength_ok 1000 1000 cH cH ar 100 bk2 W
                rw [hroot] at this
                exact this
              have CT := Lib.hid cT
              have CR := Lib.hid cR
              have HN0 := Lib.hid hN0
              clear cT cR hT hroot hr bk1 bk2 hN0
              obtain ⟨p0, p1, p2, p3, p4, p5⟩ := hS.b5.c6'
              go_upto_region 11 with fail
              clear p0 p1 p2 p3 p4 p5

              obtain ⟨B11, hB11⟩ : ∃ B, B = v.heap.size := ⟨_, rfl⟩
              have o11 := Own.new v [.int .i64 eL, .int .i64 eH, .int .i64 cL, .int .i64 cH, .int .i64 ar, .int .i64 ru] 47 B11 hB11
              rw [← hB11]
              have hle : v.heap.size ≤ B11 := Nat.le_of_eq hB11.symm
              refine wp_abs (fun X => Gr v X ∧ Own X B11 [.int .i64 eL, .int .i64 eH, .int .i64 cL, .int .i64 cH, .int .i64 ar, .int .i64 ru]) ⟨Gr.al _ _, o11⟩ ?_
              clear o11 hB11
              rintro X1 ⟨gX1, o11⟩
              have tk : True := trivial
              go_upto_region 12 with (first
                | (have _t := tk; clear tk _t; go_at_call 31; refine (armSpan_any eH eH _).mono ?_; rintro e x1 ⟨rfl, g1⟩)
                | (go_at_call 31; refine (armSpan_any cH cH _).mono ?_; rintro e x2 ⟨rfl, g2⟩; have oX := o11.keep (g1.tr g2); (obtain ⟨p0, p1, p2, p3, p4, p5⟩ := oX.1.c6'); have f0 := oX.2 0; have f1 := oX.2 1; have f2 := oX.2 2; have f3 := oX.2 3))
              have oZ := (((oX.set (i := 0) (v := .int .i64 eH) (by simp)).set (i := 1) (v := .int .i64 eH) (by simp)).set (i := 2) (v := .int .i64 cH) (by simp)).set (i := 3) (v := .int .i64 cH) (by simp)
              have gZ := ((((gX1.tr (g1.tr g2)).setCell (p := ⟨B11, 0, none⟩) hle (.int .i64 eH)).setCell (p := ⟨B11, 1, none⟩) hle (.int .i64 eH)).setCell (p := ⟨B11, 2, none⟩) hle (.int .i64 cH)).setCell (p := ⟨B11, 3, none⟩) hle (.int .i64 cH)
              refine wp_abs (fun X => Gr v X ∧ Own X B11 [.int .i64 eH, .int .i64 eH, .int .i64 cH, .int .i64 cH, .int .i64 ar, .int .i64 ru]) ⟨gZ, oZ⟩ ?_
              clear gZ oZ oX p0 p1 p2 p3 p4 p5 f0 f1 f2 f3 g1 g2 o11 gX1
              rintro X2 ⟨gX2, o11⟩
              obtain ⟨p0, p1, p2, p3, p4, p5⟩ := o11.1.c6'
              go_upto_region 13 with (go_at_call 29; refine (CT.out _).mono ?_; rintro e x3 ⟨rfl, g3⟩)
              obtain ⟨B12, hB12⟩ : ∃ B, B = x3.heap.size := ⟨_, rfl⟩
              have b12 := Box.new x3 [.int .i64 S1, .int .i64 S1] 45 B12 hB12
              have g4 := g3.tr (Gr.al x3 (.cells #[.int .i64 S1, .int .i64 S1] 45))
              rw [← hB12]
              refine wp_abs (fun X => Gr v X ∧ Own X B11 [.int .i64 eH, .int .i64 eH, .int .i64 cH, .int .i64 cH, .int .i64 ar, .int .i64 ru] ∧ Box X B12 [.int .i64 S1, .int .i64 S1]) ⟨gX2.tr g4, o11.keep g4, b12⟩ ?_
              clear g4 g3 b12 hB12 p0 p1 p2 p3 p4 p5 o11 gX2
              rintro X3 ⟨gX3, o11, b12⟩
              have hS3 := hS.keep gX3
              obtain ⟨s0, s1⟩ := hS3.b6.c2
              obtain ⟨u0, u1⟩ := b12.c2
              have y7 : decide (S1 < S0) = false := by
                have : S0 ≤ S1 := by rw [← HS0.out, ← HS1.out]; exact strongB_mono (by omega) (by omega) (by omega) (by omega) (by omega) (by omega) (Int.le_refl _)
                simp; omega
              have y8 : decide (S1 < S1) = false := by simp
              have y9 : (S1 != S1) = false := by simp
              go_upto_region 16 with (go_at_call 31; refine (armSpan_any 1000 1000 _).mono ?_; rintro e x1 ⟨rfl, g1⟩; have oX := o11.keep g1; (obtain ⟨p0, p1, p2, p3, p4, p5⟩ := oX.1.c6'); have f0 := oX.2 0; have f1 := oX.2 1; have f5 := oX.2 5)
              have oZ := ((oX.set (i := 0) (v := .int .i64 1000) (by simp)).set (i := 1) (v := .int .i64 1000) (by simp)).set (i := 5) (v := .int .i64 100) (by simp)
              have gZ := (((gX3.tr g1).setCell (p := ⟨B11, 0, none⟩) hle (.int .i64 1000)).setCell (p := ⟨B11, 1, none⟩) hle (.int .i64 1000)).setCell (p := ⟨B11, 5, none⟩) hle (.int .i64 100)
              refine wp_abs (fun X => Gr v X ∧ Own X B11 [.int .i64 1000, .int .i64 1000, .int .i64 cH, .int .i64 cH, .int .i64 ar, .int .i64 100]) ⟨gZ, oZ⟩ ?_
              clear gZ oZ oX p0 p1 p2 p3 p4 p5 f0 f1 f5 g1 o11 gX3 b12 u0 u1 s0 s1 hS3 y7 y8 y9
              rintro X4 ⟨gX4, o11⟩
              obtain ⟨p0, p1, p2, p3, p4, p5⟩ := o11.1.c6'
              go_upto_region 17 with (go_at_call 29; refine (CR.out _).mono ?_; rintro e x3 ⟨rfl, g3⟩)
              obtain ⟨B14, hB14⟩ : ∃ B, B = x3.heap.size := ⟨_, rfl⟩
              have b14 := Box.new x3 [.int .i64 r, .int .i64 r] 45 B14 hB14
              have g4 := gX4.tr (g3.tr (Gr.al x3 (.cells #[.int .i64 r, .int .i64 r] 45)))
              rw [← hB14]
              refine wp_abs (fun X => Gr v X ∧ Box X B14 [.int .i64 r, .int .i64 r]) ⟨g4, b14⟩ ?_
              clear g4 g3 b14 hB14 p0 p1 p2 p3 p4 p5 o11 gX4
              rintro X5 ⟨gX5, b14⟩
              have hS5 := hS.keep gX5
              obtain ⟨u0, u1⟩ := b14.c2
              obtain ⟨p0, p1, p2, p3, p4, p5⟩ := hS5.b5.c6'
              have x0 : decide (r < 0) = false := by simp; omega
              have x1 : decide (100000 < r) = false := by simp; omega
              obtain ⟨s1, hs1⟩ : ∃ s1, r * r = s1 := ⟨_, rfl⟩
              obtain ⟨s2, hs2⟩ : ∃ s2, r + 1 = s2 := ⟨_, rfl⟩
              obtain ⟨s3, hs3⟩ : ∃ s3, s2 * s2 = s3 := ⟨_, rfl⟩
              rw [hs1] at r1 rr0 rr1
              rw [hs2, hs3] at r2 rr1
              have x2 : IntKind.i64.wrap (r * r) = s1 := by rw [hs1]; exact IntWalk.i64_in _ (by omega)
              have x3 : IntKind.i64.wrap (cH * ar) = N0 := by rw [HN0.out]; exact IntWalk.i64_in _ (by omega)
              have x4 : decide (N0 < s1) = false := by simp; omega
              have x5 : IntKind.i64.wrap (r + 1) = s2 := by rw [hs2]; exact IntWalk.i64_in _ (by omega)
              have x6 : IntKind.i64.wrap (s2 * s2) = s3 := by rw [hs3]; exact IntWalk.i64_in _ (by omega)
              have x7 : decide (s3 ≤ N0) = false := by simp; omega
              clear rr0 rr1 r1 r2 hs1 hs2 hs3 n0 n1 r3
              go_wp2
              go_roundw
              case rel => exact Lib.hid ⟨1 + 1, by omega, (by first | rfl | go_num), hS5⟩
              case measure => simp [intOf]
        · obtain ⟨i0, i1, i2, i3⟩ := inL_mid (lo := eL) (show 0 ≤ eH - eL by omega) hy0.1 hy0.2
          obtain ⟨j0, j1, j2, j3⟩ := inL_mid (lo := cL) (show 0 ≤ cH - cL by omega) hy1.1 hy1.2
          have d0 : IntKind.i64.wrap (eH - eL) = eH - eL := IntWalk.i64_in _ (by omega)
          have d1 : IntKind.i64.wrap (cH - cL) = cH - cL := IntWalk.i64_in _ (by omega)
          obtain ⟨M, hM⟩ : ∃ M, y0 * (eH - eL) = M := ⟨_, rfl⟩
          obtain ⟨N, hN⟩ : ∃ N, y1 * (cH - cL) = N := ⟨_, rfl⟩
          rw [hM] at i0 i1 i2 i3
          rw [hN] at j0 j1 j2 j3
          have d2 : IntKind.i64.wrap (y0 * (eH - eL)) = M := by rw [hM]; exact IntWalk.i64_in _ (by omega)
          have d3 : IntKind.i64.wrap (y1 * (cH - cL)) = N := by rw [hN]; exact IntWalk.i64_in _ (by omega)
          have d4 : M.tdiv 255 = M / 255 := Int.tdiv_eq_ediv_of_nonneg i0
          have d5 : N.tdiv 255 = N / 255 := Int.tdiv_eq_ediv_of_nonneg j0
          obtain ⟨E, hE⟩ : ∃ E, eL + M / 255 = E := ⟨_, rfl⟩
          obtain ⟨C, hC⟩ : ∃ C, cL + N / 255 = C := ⟨_, rfl⟩
          have kE : IntKind.i64.wrap (eL + M / 255) = E := by rw [IntWalk.i64_in _ (by omega)]; exact hE
          have kC : IntKind.i64.wrap (cL + N / 255) = C := by rw [IntWalk.i64_in _ (by omega)]; exact hC
          have k9 : IntKind.i64.wrap y0 = y0 := IntWalk.i64_in _ (by omega)
          have k8 : IntKind.i64.wrap y1 = y1 := IntWalk.i64_in _ (by omega)
          have kM : IntKind.i64.wrap (M / 255) = M / 255 := IntWalk.i64_in _ (by omega)
          have kN : IntKind.i64.wrap (N / 255) = N / 255 := IntWalk.i64_in _ (by omega)
          rw [hE] at i2 i3
          rw [hC] at j2 j3
          clear hM hN hE hC
          have e0 : eL ≤ E ∧ E ≤ eH := by omega
          have e1 : cL ≤ C ∧ C ≤ cH := by omega
          obtain ⟨t0, t1⟩ := hS.b3.c2
          obtain ⟨p0, p1, p2, p3, p4, p5⟩ := hS.b5.c6'
          go_upto_region 8 with fail
          refine (show (∀ s : Nat → Value, Code.wp Try.prog _ _ ⟨#[L 0, L 1, .pointer (some ⟨w.heap.size, 0, none⟩), .pointer (some ⟨(w.heap.size + 1), 0, none⟩), s 4, .pointer (some ⟨B5, 0, none⟩), .pointer (some ⟨B6, 0, none⟩), .int .i64 0, .int .i64 ((2 : Nat) : Int), s 9, s 10, s 11, s 12, s 13, s 14, s 15, s 16, undef, undef, undef, L 20, L 21, L 22, L 23, L 24, L 25, L 26, L 27, L 28, L 29, L 30, L 31, L 32, L 33, L 34, L 35, L 36, L 37, L 38, L 39, L 40, L 41, L 42, L 43, L 44, L 45, L 46, L 47, L 48, L 49, L 50, L 51, L 52, L 53, L 54, L 55, L 56, L 57, L 58, L 59, L 60, L 61, L 62, L 63, L 64, L 65, s 66, s 67, s 68, s 69, s 70, s 71, s 72, s 73, s 74, s 75, s 76, s 77, s 78, s 79, s 80, s 81, s 82, s 83, s 84, s 85, s 86, s 87, s 88, s 89, s 90, s 91, s 92, s 93, s 94, s 95, s 96, s 97, s 98, s 99, s 100, s 101, s 102, s 103, s 104, s 105, s 106, s 107, s 108, s 109, s 110, s 111, s 112, s 113, s 114, s 115, s 116, s 117, s 118, s 119, s 120, s 121, s 122, s 123, s 124, s 125, s 126, s 127, s 128, s 129, s 130, s 131, s 132, s 133, s 134, s 135, s 136, s 137, s 138, s 139, s 140, s 141, s 142, s 143, s 144, s 145, s 146, s 147, s 148, s 149, s 150, s 151, s 152, s 153, s 154, s 155, s 156, s 157, s 158, s 159, s 160, s 161, s 162, s 163, s 164, s 165, s 166, s 167, s 168, s 169, s 170, s 171, s 172, s 173, s 174, s 175, s 176, s 177, s 178, s 179, s 180, s 181, s 182, s 183, s 184, s 185, s 186, s 187, s 188, s 189, s 190, s 191, s 192, s 193, s 194, s 195, s 196, s 197, s 198, s 199, s 200, s 201, s 202, s 203, s 204, s 205, s 206, s 207, s 208, undef, undef, undef, undef, undef, undef, undef, undef, undef, undef, undef, undef, undef, undef, undef, undef, undef, undef, undef, undef, undef, undef, undef, undef, undef, undef, undef, undef, undef, undef, undef, undef, undef, undef, undef, undef, undef, undef, undef, undef, undef], []⟩ _) → _ from fun h => h ((fun l : List Value => fun i => l.getD i undef) [undef, undef, undef, undef, _, undef, undef, undef, undef, _, _, _, _, _, _, _, _, undef, undef, undef, undef, undef, undef, undef, undef, undef, undef, undef, undef, undef, undef, undef, undef, undef, undef, undef, undef, undef, undef, undef, undef, undef, undef, undef, undef, undef, undef, undef, undef, undef, undef, undef, undef, undef, undef, undef, undef, undef, undef, undef, undef, undef, undef, undef, undef, undef, _, _, _, _, _, _, _, _, _, _, _, _, _, _, _, _, _, _, _, _, _, _, _, _, _, _, _, _, _, _, _, _, _, _, _, _, _, _, _, _, _, _, _, _, _, _, _, _, _, _, _, _, _, _, _, _, _, _, _, _, _, _, _, _, _, _, _, _, _, _, _, _, _, _, _, _, _, _, _, _, _, _, _, _, _, _, _, _, _, _, _, _, _, _, _, _, _, _, _, _, _, _, _, _, _, _, _, _, _, _, _, _, _, _, _, _, _, _, _, _, _, _, _, _, _, _, _, _, _, _, _, _, _, _, _, _, _, _, _, _, _, _, _, undef, undef, undef, undef, undef, undef, undef, undef, undef, undef, undef, undef, undef, undef, undef, undef, undef, undef, undef, undef, undef, undef, undef, undef, undef, undef, undef, undef, undef, undef, undef, undef, undef, undef, undef, undef, undef, undef, undef, undef, undef])) ?_
          intro s
          dsimp only
          refine wp_region_facts 19 [(1, 0), (2, 1), (4, 3), (5, 4), (6, 5), (8, 6), (8, 7), (10, 9), (11, 10), (13, 12), (14, 13), (15, 11), (15, 14), (16, 8), (16, 15), (17, 16), (18, 2), (18, 17)] (fun x => ⟨#[L 0, L 1, .pointer (some ⟨w.heap.size, 0, none⟩), .pointer (some ⟨(w.heap.size + 1), 0, none⟩), s 4, .pointer (some ⟨B5, 0, none⟩), .pointer (some ⟨B6, 0, none⟩), .int .i64 0, .int .i64 ((2 : Nat) : Int), s 9, s 10, s 11, s 12, s 13, s 14, s 15, s 16, undef, undef, undef, L 20, L 21, L 22, L 23, L 24, L 25, L 26, L 27, L 28, L 29, L 30, L 31, L 32, L 33, L 34, L 35, L 36, L 37, L 38, L 39, L 40, L 41, L 42, L 43, L 44, L 45, L 46, L 47, L 48, L 49, L 50, L 51, L 52, L 53, L 54, L 55, L 56, L 57, L 58, L 59, L 60, L 61, L 62, L 63, L 64, L 65, s 66, s 67, s 68, s 69, x 0, x 1, x 2, x 3, x 4, x 5, x 6, x 7, x 8, x 9, x 10, x 11, x 12, x 13, x 14, x 15, x 16, x 17, x 18, s 89, s 90, s 91, s 92, s 93, s 94, s 95, s 96, s 97, s 98, s 99, s 100, s 101, s 102, s 103, s 104, s 105, s 106, s 107, s 108, s 109, s 110, s 111, s 112, s 113, s 114, s 115, s 116, s 117, s 118, s 119, s 120, s 121, s 122, s 123, s 124, s 125, s 126, s 127, s 128, s 129, s 130, s 131, s 132, s 133, s 134, s 135, s 136, s 137, s 138, s 139, s 140, s 141, s 142, s 143, s 144, s 145, s 146, s 147, s 148, s 149, s 150, s 151, s 152, s 153, s 154, s 155, s 156, s 157, s 158, s 159, s 160, s 161, s 162, s 163, s 164, s 165, s 166, s 167, s 168, s 169, s 170, s 171, s 172, s 173, s 174, s 175, s 176, s 177, s 178, s 179, s 180, s 181, s 182, s 183, s 184, s 185, s 186, s 187, s 188, s 189, s 190, s 191, s 192, s 193, s 194, s 195, s 196, s 197, s 198, s 199, s 200, s 201, s 202, s 203, s 204, s 205, s 206, s 207, s 208, undef, undef, undef, undef, undef, undef, undef, undef, undef, undef, undef, undef, undef, undef, undef, undef, undef, undef, undef, undef, undef, undef, undef, undef, undef, undef, undef, undef, undef, undef, undef, undef, undef, undef, undef, undef, undef, undef, undef, undef, undef], []⟩) (fun i => s (i + 70)) [fun _ x => x = .pointer (some ⟨B5, 0, none⟩), fun _ x => x = .pointer (some ⟨B5, 0, none⟩), fun _ x => x = .int .i64 eL, fun _ x => x = .pointer (some ⟨(w.heap.size + 1), 0, none⟩), fun _ x => x = .int .u8 y0, fun _ x => x = .int .i64 y0, fun _ x => x = .agg #[.int .i64 0, .int .i64 255, .int .i64 y0], fun _ x => x = .int .i64 ((2 : Nat) : Int), fun _ x => x = .int .i64 y0, fun _ x => x = .pointer (some ⟨B5, 0, none⟩), fun _ x => x = .pointer (some ⟨B5, 1, none⟩), fun _ x => x = .int .i64 eH, fun _ x => x = .pointer (some ⟨B5, 0, none⟩), fun _ x => x = .pointer (some ⟨B5, 0, none⟩), fun _ x => x = .int .i64 eL, fun _ x => x = .int .i64 (eH - eL), fun _ x => x = .int .i64 M, fun _ x => x = .int .i64 (M / 255), fun _ x => x = .int .i64 E] (by rfl) (by kernel_rfl) (by kernel_rfl) (by kernel_rfl) (stays_cons (Stays.eq _) (stays_cons (Stays.eq _) (stays_cons (Stays.eq _) (stays_cons (Stays.eq _) (stays_cons (Stays.eq _) (stays_cons (Stays.eq _) (stays_cons (Stays.eq _) (stays_cons (Stays.eq _) (stays_cons (Stays.eq _) (stays_cons (Stays.eq _) (stays_cons (Stays.eq _) (stays_cons (Stays.eq _) (stays_cons (Stays.eq _) (stays_cons (Stays.eq _) (stays_cons (Stays.eq _) (stays_cons (Stays.eq _) (stays_cons (Stays.eq _) (stays_cons (Stays.eq _) (stays_cons (Stays.eq _) stays_nil))))))))))))))))))) ?step8_2 ?fin8_2
          case step8_2 =>
            rintro i hi x v gv hd K hK
            have hi8 : i = 0 ∨ i = 1 ∨ i = 2 ∨ i = 3 ∨ i = 4 ∨ i = 5 ∨ i = 6 ∨ i = 7 ∨ i = 8 ∨ i = 9 ∨ i = 10 ∨ i = 11 ∨ i = 12 ∨ i = 13 ∨ i = 14 ∨ i = 15 ∨ i = 16 ∨ i = 17 ∨ i = 18 := by omega
            rcases hi8 with rfl | rfl | rfl | rfl | rfl | rfl | rfl | rfl | rfl | rfl | rfl | rfl | rfl | rfl | rfl | rfl | rfl | rfl | rfl
            · show wpOp Try.prog _ _ 0 K (⟨#[_, _, _, _, _, _, _, _, _, _, _, _, _, _, _, _, _, _, _, _, _, _, _, _, _, _, _, _, _, _, _, _, _, _, _, _, _, _, _, _, _, _, _, _, _, _, _, _, _, _, _, _, _, _, _, _, _, _, _, _, _, _, _, _, _, _, _, _, _, _, x 0, x 1, x 2, x 3, x 4, x 5, x 6, x 7, x 8, x 9, x 10, x 11, x 12, x 13, x 14, x 15, x 16, x 17, x 18, _, _, _, _, _, _, _, _, _, _, _, _, _, _, _, _, _, _, _, _, _, _, _, _, _, _, _, _, _, _, _, _, _, _, _, _, _, _, _, _, _, _, _, _, _, _, _, _, _, _, _, _, _, _, _, _, _, _, _, _, _, _, _, _, _, _, _, _, _, _, _, _, _, _, _, _, _, _, _, _, _, _, _, _, _, _, _, _, _, _, _, _, _, _, _, _, _, _, _, _, _, _, _, _, _, _, _, _, _, _, _, _, _, _, _, _, _, _, _, _, _, _, _, _, _, _, _, _, _, _, _, _, _, _, _, _, _, _, _, _, _, _, _, _, _, _, _, _, _, _, _, _, _, _, _, _, _, _, _, _, _], []⟩ : Act) v
              refine wpOp_step rfl (fun K' hK' => ?_)
              go_simp
              exact hK' _ _ (hK _ _ (Below.refl _ _) (at_of rfl (rfl)))
            · obtain ⟨x, rfl⟩ := upd_of (show x 0 = .pointer (some ⟨B5, 0, none⟩) from hd 0 _ (by simp) rfl)
              show wpOp Try.prog _ _ 1 K (⟨#[_, _, _, _, _, _, _, _, _, _, _, _, _, _, _, _, _, _, _, _, _, _, _, _, _, _, _, _, _, _, _, _, _, _, _, _, _, _, _, _, _, _, _, _, _, _, _, _, _, _, _, _, _, _, _, _, _, _, _, _, _, _, _, _, _, _, _, _, _, _, .pointer (some ⟨B5, 0, none⟩), x 1, x 2, x 3, x 4, x 5, x 6, x 7, x 8, x 9, x 10, x 11, x 12, x 13, x 14, x 15, x 16, x 17, x 18, _, _, _, _, _, _, _, _, _, _, _, _, _, _, _, _, _, _, _, _, _, _, _, _, _, _, _, _, _, _, _, _, _, _, _, _, _, _, _, _, _, _, _, _, _, _, _, _, _, _, _, _, _, _, _, _, _, _, _, _, _, _, _, _, _, _, _, _, _, _, _, _, _, _, _, _, _, _, _, _, _, _, _, _, _, _, _, _, _, _, _, _, _, _, _, _, _, _, _, _, _, _, _, _, _, _, _, _, _, _, _, _, _, _, _, _, _, _, _, _, _, _, _, _, _, _, _, _, _, _, _, _, _, _, _, _, _, _, _, _, _, _, _, _, _, _, _, _, _, _, _, _, _, _, _, _, _, _, _, _, _], []⟩ : Act) v
              refine wpOp_step rfl (fun K' hK' => ?_)
              go_simp
              exact hK' _ _ (hK _ _ (Below.refl _ _) (at_of rfl (rfl)))
            · obtain ⟨x, rfl⟩ := upd_of (show x 1 = .pointer (some ⟨B5, 0, none⟩) from hd 1 _ (by simp) rfl)
              show wpOp Try.prog _ _ 2 K (⟨#[_, _, _, _, _, _, _, _, _, _, _, _, _, _, _, _, _, _, _, _, _, _, _, _, _, _, _, _, _, _, _, _, _, _, _, _, _, _, _, _, _, _, _, _, _, _, _, _, _, _, _, _, _, _, _, _, _, _, _, _, _, _, _, _, _, _, _, _, _, _, x 0, .pointer (some ⟨B5, 0, none⟩), x 2, x 3, x 4, x 5, x 6, x 7, x 8, x 9, x 10, x 11, x 12, x 13, x 14, x 15, x 16, x 17, x 18, _, _, _, _, _, _, _, _, _, _, _, _, _, _, _, _, _, _, _, _, _, _, _, _, _, _, _, _, _, _, _, _, _, _, _, _, _, _, _, _, _, _, _, _, _, _, _, _, _, _, _, _, _, _, _, _, _, _, _, _, _, _, _, _, _, _, _, _, _, _, _, _, _, _, _, _, _, _, _, _, _, _, _, _, _, _, _, _, _, _, _, _, _, _, _, _, _, _, _, _, _, _, _, _, _, _, _, _, _, _, _, _, _, _, _, _, _, _, _, _, _, _, _, _, _, _, _, _, _, _, _, _, _, _, _, _, _, _, _, _, _, _, _, _, _, _, _, _, _, _, _, _, _, _, _, _, _, _, _, _, _], []⟩ : Act) v
              refine wpOp_step rfl (fun K' hK' => ?_)
              have q := gv.keep p0
              go_simp
              exact hK' _ _ (hK _ _ (Below.refl _ _) (at_of rfl (rfl)))
            · show wpOp Try.prog _ _ 3 K (⟨#[_, _, _, _, _, _, _, _, _, _, _, _, _, _, _, _, _, _, _, _, _, _, _, _, _, _, _, _, _, _, _, _, _, _, _, _, _, _, _, _, _, _, _, _, _, _, _, _, _, _, _, _, _, _, _, _, _, _, _, _, _, _, _, _, _, _, _, _, _, _, x 0, x 1, x 2, x 3, x 4, x 5, x 6, x 7, x 8, x 9, x 10, x 11, x 12, x 13, x 14, x 15, x 16, x 17, x 18, _, _, _, _, _, _, _, _, _, _, _, _, _, _, _, _, _, _, _, _, _, _, _, _, _, _, _, _, _, _, _, _, _, _, _, _, _, _, _, _, _, _, _, _, _, _, _, _, _, _, _, _, _, _, _, _, _, _, _, _, _, _, _, _, _, _, _, _, _, _, _, _, _, _, _, _, _, _, _, _, _, _, _, _, _, _, _, _, _, _, _, _, _, _, _, _, _, _, _, _, _, _, _, _, _, _, _, _, _, _, _, _, _, _, _, _, _, _, _, _, _, _, _, _, _, _, _, _, _, _, _, _, _, _, _, _, _, _, _, _, _, _, _, _, _, _, _, _, _, _, _, _, _, _, _, _, _, _, _, _, _], []⟩ : Act) v
              refine wpOp_step rfl (fun K' hK' => ?_)
              go_simp
              exact hK' _ _ (hK _ _ (Below.refl _ _) (at_of rfl (rfl)))
            · obtain ⟨x, rfl⟩ := upd_of (show x 3 = .pointer (some ⟨(w.heap.size + 1), 0, none⟩) from hd 3 _ (by simp) rfl)
              show wpOp Try.prog _ _ 4 K (⟨#[_, _, _, _, _, _, _, _, _, _, _, _, _, _, _, _, _, _, _, _, _, _, _, _, _, _, _, _, _, _, _, _, _, _, _, _, _, _, _, _, _, _, _, _, _, _, _, _, _, _, _, _, _, _, _, _, _, _, _, _, _, _, _, _, _, _, _, _, _, _, x 0, x 1, x 2, .pointer (some ⟨(w.heap.size + 1), 0, none⟩), x 4, x 5, x 6, x 7, x 8, x 9, x 10, x 11, x 12, x 13, x 14, x 15, x 16, x 17, x 18, _, _, _, _, _, _, _, _, _, _, _, _, _, _, _, _, _, _, _, _, _, _, _, _, _, _, _, _, _, _, _, _, _, _, _, _, _, _, _, _, _, _, _, _, _, _, _, _, _, _, _, _, _, _, _, _, _, _, _, _, _, _, _, _, _, _, _, _, _, _, _, _, _, _, _, _, _, _, _, _, _, _, _, _, _, _, _, _, _, _, _, _, _, _, _, _, _, _, _, _, _, _, _, _, _, _, _, _, _, _, _, _, _, _, _, _, _, _, _, _, _, _, _, _, _, _, _, _, _, _, _, _, _, _, _, _, _, _, _, _, _, _, _, _, _, _, _, _, _, _, _, _, _, _, _, _, _, _, _, _, _], []⟩ : Act) v
              refine wpOp_step rfl (fun K' hK' => ?_)
              have q := gv.keep t0
              go_simp
              exact hK' _ _ (hK _ _ (Below.refl _ _) (at_of rfl (rfl)))
            · obtain ⟨x, rfl⟩ := upd_of (show x 4 = .int .u8 y0 from hd 4 _ (by simp) rfl)
              show wpOp Try.prog _ _ 5 K (⟨#[_, _, _, _, _, _, _, _, _, _, _, _, _, _, _, _, _, _, _, _, _, _, _, _, _, _, _, _, _, _, _, _, _, _, _, _, _, _, _, _, _, _, _, _, _, _, _, _, _, _, _, _, _, _, _, _, _, _, _, _, _, _, _, _, _, _, _, _, _, _, x 0, x 1, x 2, x 3, .int .u8 y0, x 5, x 6, x 7, x 8, x 9, x 10, x 11, x 12, x 13, x 14, x 15, x 16, x 17, x 18, _, _, _, _, _, _, _, _, _, _, _, _, _, _, _, _, _, _, _, _, _, _, _, _, _, _, _, _, _, _, _, _, _, _, _, _, _, _, _, _, _, _, _, _, _, _, _, _, _, _, _, _, _, _, _, _, _, _, _, _, _, _, _, _, _, _, _, _, _, _, _, _, _, _, _, _, _, _, _, _, _, _, _, _, _, _, _, _, _, _, _, _, _, _, _, _, _, _, _, _, _, _, _, _, _, _, _, _, _, _, _, _, _, _, _, _, _, _, _, _, _, _, _, _, _, _, _, _, _, _, _, _, _, _, _, _, _, _, _, _, _, _, _, _, _, _, _, _, _, _, _, _, _, _, _, _, _, _, _, _, _], []⟩ : Act) v
              refine wpOp_step rfl (fun K' hK' => ?_)
              go_simp
              exact hK' _ _ (hK _ _ (Below.refl _ _) (at_of rfl (rfl)))
            · obtain ⟨x, rfl⟩ := upd_of (show x 5 = .int .i64 y0 from hd 5 _ (by simp) rfl)
              show wpOp Try.prog _ _ 6 K (⟨#[_, _, _, _, _, _, _, _, _, _, _, _, _, _, _, _, _, _, _, _, _, _, _, _, _, _, _, _, _, _, _, _, _, _, _, _, _, _, _, _, _, _, _, _, _, _, _, _, _, _, _, _, _, _, _, _, _, _, _, _, _, _, _, _, _, _, _, _, _, _, x 0, x 1, x 2, x 3, x 4, .int .i64 y0, x 6, x 7, x 8, x 9, x 10, x 11, x 12, x 13, x 14, x 15, x 16, x 17, x 18, _, _, _, _, _, _, _, _, _, _, _, _, _, _, _, _, _, _, _, _, _, _, _, _, _, _, _, _, _, _, _, _, _, _, _, _, _, _, _, _, _, _, _, _, _, _, _, _, _, _, _, _, _, _, _, _, _, _, _, _, _, _, _, _, _, _, _, _, _, _, _, _, _, _, _, _, _, _, _, _, _, _, _, _, _, _, _, _, _, _, _, _, _, _, _, _, _, _, _, _, _, _, _, _, _, _, _, _, _, _, _, _, _, _, _, _, _, _, _, _, _, _, _, _, _, _, _, _, _, _, _, _, _, _, _, _, _, _, _, _, _, _, _, _, _, _, _, _, _, _, _, _, _, _, _, _, _, _, _, _, _], []⟩ : Act) v
              refine wpOp_step rfl (fun K' hK' => ?_)
              go_simp
              exact hK' _ _ (hK _ _ (Below.refl _ _) (at_of rfl (rfl)))
            · show wpOp Try.prog _ _ 7 K (⟨#[_, _, _, _, _, _, _, _, _, _, _, _, _, _, _, _, _, _, _, _, _, _, _, _, _, _, _, _, _, _, _, _, _, _, _, _, _, _, _, _, _, _, _, _, _, _, _, _, _, _, _, _, _, _, _, _, _, _, _, _, _, _, _, _, _, _, _, _, _, _, x 0, x 1, x 2, x 3, x 4, x 5, x 6, x 7, x 8, x 9, x 10, x 11, x 12, x 13, x 14, x 15, x 16, x 17, x 18, _, _, _, _, _, _, _, _, _, _, _, _, _, _, _, _, _, _, _, _, _, _, _, _, _, _, _, _, _, _, _, _, _, _, _, _, _, _, _, _, _, _, _, _, _, _, _, _, _, _, _, _, _, _, _, _, _, _, _, _, _, _, _, _, _, _, _, _, _, _, _, _, _, _, _, _, _, _, _, _, _, _, _, _, _, _, _, _, _, _, _, _, _, _, _, _, _, _, _, _, _, _, _, _, _, _, _, _, _, _, _, _, _, _, _, _, _, _, _, _, _, _, _, _, _, _, _, _, _, _, _, _, _, _, _, _, _, _, _, _, _, _, _, _, _, _, _, _, _, _, _, _, _, _, _, _, _, _, _, _, _], []⟩ : Act) v
              refine wpOp_step rfl (fun K' hK' => ?_)
              go_simp
              exact hK' _ _ (hK _ _ (Below.refl _ _) (at_of rfl (rfl)))
            · obtain ⟨x, rfl⟩ := upd_of (show x 6 = .agg #[.int .i64 0, .int .i64 255, .int .i64 y0] from hd 6 _ (by simp) rfl)
              obtain ⟨x, rfl⟩ := upd_of (show x 7 = .int .i64 ((2 : Nat) : Int) from hd 7 _ (by simp) rfl)
              show wpOp Try.prog _ _ 8 K (⟨#[_, _, _, _, _, _, _, _, _, _, _, _, _, _, _, _, _, _, _, _, _, _, _, _, _, _, _, _, _, _, _, _, _, _, _, _, _, _, _, _, _, _, _, _, _, _, _, _, _, _, _, _, _, _, _, _, _, _, _, _, _, _, _, _, _, _, _, _, _, _, x 0, x 1, x 2, x 3, x 4, x 5, .agg #[.int .i64 0, .int .i64 255, .int .i64 y0], .int .i64 ((2 : Nat) : Int), x 8, x 9, x 10, x 11, x 12, x 13, x 14, x 15, x 16, x 17, x 18, _, _, _, _, _, _, _, _, _, _, _, _, _, _, _, _, _, _, _, _, _, _, _, _, _, _, _, _, _, _, _, _, _, _, _, _, _, _, _, _, _, _, _, _, _, _, _, _, _, _, _, _, _, _, _, _, _, _, _, _, _, _, _, _, _, _, _, _, _, _, _, _, _, _, _, _, _, _, _, _, _, _, _, _, _, _, _, _, _, _, _, _, _, _, _, _, _, _, _, _, _, _, _, _, _, _, _, _, _, _, _, _, _, _, _, _, _, _, _, _, _, _, _, _, _, _, _, _, _, _, _, _, _, _, _, _, _, _, _, _, _, _, _, _, _, _, _, _, _, _, _, _, _, _, _, _, _, _, _, _, _], []⟩ : Act) v
              refine wpOp_step rfl (fun K' hK' => ?_)
              go_simp
              exact hK' _ _ (hK _ _ (Below.refl _ _) (at_of rfl (rfl)))
            · show wpOp Try.prog _ _ 9 K (⟨#[_, _, _, _, _, _, _, _, _, _, _, _, _, _, _, _, _, _, _, _, _, _, _, _, _, _, _, _, _, _, _, _, _, _, _, _, _, _, _, _, _, _, _, _, _, _, _, _, _, _, _, _, _, _, _, _, _, _, _, _, _, _, _, _, _, _, _, _, _, _, x 0, x 1, x 2, x 3, x 4, x 5, x 6, x 7, x 8, x 9, x 10, x 11, x 12, x 13, x 14, x 15, x 16, x 17, x 18, _, _, _, _, _, _, _, _, _, _, _, _, _, _, _, _, _, _, _, _, _, _, _, _, _, _, _, _, _, _, _, _, _, _, _, _, _, _, _, _, _, _, _, _, _, _, _, _, _, _, _, _, _, _, _, _, _, _, _, _, _, _, _, _, _, _, _, _, _, _, _, _, _, _, _, _, _, _, _, _, _, _, _, _, _, _, _, _, _, _, _, _, _, _, _, _, _, _, _, _, _, _, _, _, _, _, _, _, _, _, _, _, _, _, _, _, _, _, _, _, _, _, _, _, _, _, _, _, _, _, _, _, _, _, _, _, _, _, _, _, _, _, _, _, _, _, _, _, _, _, _, _, _, _, _, _, _, _, _, _, _], []⟩ : Act) v
              refine wpOp_step rfl (fun K' hK' => ?_)
              go_simp
              exact hK' _ _ (hK _ _ (Below.refl _ _) (at_of rfl (rfl)))
            · obtain ⟨x, rfl⟩ := upd_of (show x 9 = .pointer (some ⟨B5, 0, none⟩) from hd 9 _ (by simp) rfl)
              show wpOp Try.prog _ _ 10 K (⟨#[_, _, _, _, _, _, _, _, _, _, _, _, _, _, _, _, _, _, _, _, _, _, _, _, _, _, _, _, _, _, _, _, _, _, _, _, _, _, _, _, _, _, _, _, _, _, _, _, _, _, _, _, _, _, _, _, _, _, _, _, _, _, _, _, _, _, _, _, _, _, x 0, x 1, x 2, x 3, x 4, x 5, x 6, x 7, x 8, .pointer (some ⟨B5, 0, none⟩), x 10, x 11, x 12, x 13, x 14, x 15, x 16, x 17, x 18, _, _, _, _, _, _, _, _, _, _, _, _, _, _, _, _, _, _, _, _, _, _, _, _, _, _, _, _, _, _, _, _, _, _, _, _, _, _, _, _, _, _, _, _, _, _, _, _, _, _, _, _, _, _, _, _, _, _, _, _, _, _, _, _, _, _, _, _, _, _, _, _, _, _, _, _, _, _, _, _, _, _, _, _, _, _, _, _, _, _, _, _, _, _, _, _, _, _, _, _, _, _, _, _, _, _, _, _, _, _, _, _, _, _, _, _, _, _, _, _, _, _, _, _, _, _, _, _, _, _, _, _, _, _, _, _, _, _, _, _, _, _, _, _, _, _, _, _, _, _, _, _, _, _, _, _, _, _, _, _, _], []⟩ : Act) v
              refine wpOp_step rfl (fun K' hK' => ?_)
              go_simp
              exact hK' _ _ (hK _ _ (Below.refl _ _) (at_of rfl (rfl)))
            · obtain ⟨x, rfl⟩ := upd_of (show x 10 = .pointer (some ⟨B5, 1, none⟩) from hd 10 _ (by simp) rfl)
              show wpOp Try.prog _ _ 11 K (⟨#[_, _, _, _, _, _, _, _, _, _, _, _, _, _, _, _, _, _, _, _, _, _, _, _, _, _, _, _, _, _, _, _, _, _, _, _, _, _, _, _, _, _, _, _, _, _, _, _, _, _, _, _, _, _, _, _, _, _, _, _, _, _, _, _, _, _, _, _, _, _, x 0, x 1, x 2, x 3, x 4, x 5, x 6, x 7, x 8, x 9, .pointer (some ⟨B5, 1, none⟩), x 11, x 12, x 13, x 14, x 15, x 16, x 17, x 18, _, _, _, _, _, _, _, _, _, _, _, _, _, _, _, _, _, _, _, _, _, _, _, _, _, _, _, _, _, _, _, _, _, _, _, _, _, _, _, _, _, _, _, _, _, _, _, _, _, _, _, _, _, _, _, _, _, _, _, _, _, _, _, _, _, _, _, _, _, _, _, _, _, _, _, _, _, _, _, _, _, _, _, _, _, _, _, _, _, _, _, _, _, _, _, _, _, _, _, _, _, _, _, _, _, _, _, _, _, _, _, _, _, _, _, _, _, _, _, _, _, _, _, _, _, _, _, _, _, _, _, _, _, _, _, _, _, _, _, _, _, _, _, _, _, _, _, _, _, _, _, _, _, _, _, _, _, _, _, _, _], []⟩ : Act) v
              refine wpOp_step rfl (fun K' hK' => ?_)
              have q := gv.keep p1
              go_simp
              exact hK' _ _ (hK _ _ (Below.refl _ _) (at_of rfl (rfl)))
            · show wpOp Try.prog _ _ 12 K (⟨#[_, _, _, _, _, _, _, _, _, _, _, _, _, _, _, _, _, _, _, _, _, _, _, _, _, _, _, _, _, _, _, _, _, _, _, _, _, _, _, _, _, _, _, _, _, _, _, _, _, _, _, _, _, _, _, _, _, _, _, _, _, _, _, _, _, _, _, _, _, _, x 0, x 1, x 2, x 3, x 4, x 5, x 6, x 7, x 8, x 9, x 10, x 11, x 12, x 13, x 14, x 15, x 16, x 17, x 18, _, _, _, _, _, _, _, _, _, _, _, _, _, _, _, _, _, _, _, _, _, _, _, _, _, _, _, _, _, _, _, _, _, _, _, _, _, _, _, _, _, _, _, _, _, _, _, _, _, _, _, _, _, _, _, _, _, _, _, _, _, _, _, _, _, _, _, _, _, _, _, _, _, _, _, _, _, _, _, _, _, _, _, _, _, _, _, _, _, _, _, _, _, _, _, _, _, _, _, _, _, _, _, _, _, _, _, _, _, _, _, _, _, _, _, _, _, _, _, _, _, _, _, _, _, _, _, _, _, _, _, _, _, _, _, _, _, _, _, _, _, _, _, _, _, _, _, _, _, _, _, _, _, _, _, _, _, _, _, _, _], []⟩ : Act) v
              refine wpOp_step rfl (fun K' hK' => ?_)
              go_simp
              exact hK' _ _ (hK _ _ (Below.refl _ _) (at_of rfl (rfl)))
            · obtain ⟨x, rfl⟩ := upd_of (show x 12 = .pointer (some ⟨B5, 0, none⟩) from hd 12 _ (by simp) rfl)
              show wpOp Try.prog _ _ 13 K (⟨#[_, _, _, _, _, _, _, _, _, _, _, _, _, _, _, _, _, _, _, _, _, _, _, _, _, _, _, _, _, _, _, _, _, _, _, _, _, _, _, _, _, _, _, _, _, _, _, _, _, _, _, _, _, _, _, _, _, _, _, _, _, _, _, _, _, _, _, _, _, _, x 0, x 1, x 2, x 3, x 4, x 5, x 6, x 7, x 8, x 9, x 10, x 11, .pointer (some ⟨B5, 0, none⟩), x 13, x 14, x 15, x 16, x 17, x 18, _, _, _, _, _, _, _, _, _, _, _, _, _, _, _, _, _, _, _, _, _, _, _, _, _, _, _, _, _, _, _, _, _, _, _, _, _, _, _, _, _, _, _, _, _, _, _, _, _, _, _, _, _, _, _, _, _, _, _, _, _, _, _, _, _, _, _, _, _, _, _, _, _, _, _, _, _, _, _, _, _, _, _, _, _, _, _, _, _, _, _, _, _, _, _, _, _, _, _, _, _, _, _, _, _, _, _, _, _, _, _, _, _, _, _, _, _, _, _, _, _, _, _, _, _, _, _, _, _, _, _, _, _, _, _, _, _, _, _, _, _, _, _, _, _, _, _, _, _, _, _, _, _, _, _, _, _, _, _, _, _], []⟩ : Act) v
              refine wpOp_step rfl (fun K' hK' => ?_)
              go_simp
              exact hK' _ _ (hK _ _ (Below.refl _ _) (at_of rfl (rfl)))
            · obtain ⟨x, rfl⟩ := upd_of (show x 13 = .pointer (some ⟨B5, 0, none⟩) from hd 13 _ (by simp) rfl)
              show wpOp Try.prog _ _ 14 K (⟨#[_, _, _, _, _, _, _, _, _, _, _, _, _, _, _, _, _, _, _, _, _, _, _, _, _, _, _, _, _, _, _, _, _, _, _, _, _, _, _, _, _, _, _, _, _, _, _, _, _, _, _, _, _, _, _, _, _, _, _, _, _, _, _, _, _, _, _, _, _, _, x 0, x 1, x 2, x 3, x 4, x 5, x 6, x 7, x 8, x 9, x 10, x 11, x 12, .pointer (some ⟨B5, 0, none⟩), x 14, x 15, x 16, x 17, x 18, _, _, _, _, _, _, _, _, _, _, _, _, _, _, _, _, _, _, _, _, _, _, _, _, _, _, _, _, _, _, _, _, _, _, _, _, _, _, _, _, _, _, _, _, _, _, _, _, _, _, _, _, _, _, _, _, _, _, _, _, _, _, _, _, _, _, _, _, _, _, _, _, _, _, _, _, _, _, _, _, _, _, _, _, _, _, _, _, _, _, _, _, _, _, _, _, _, _, _, _, _, _, _, _, _, _, _, _, _, _, _, _, _, _, _, _, _, _, _, _, _, _, _, _, _, _, _, _, _, _, _, _, _, _, _, _, _, _, _, _, _, _, _, _, _, _, _, _, _, _, _, _, _, _, _, _, _, _, _, _, _], []⟩ : Act) v
              refine wpOp_step rfl (fun K' hK' => ?_)
              have q := gv.keep p0
              go_simp
              exact hK' _ _ (hK _ _ (Below.refl _ _) (at_of rfl (rfl)))
            · obtain ⟨x, rfl⟩ := upd_of (show x 11 = .int .i64 eH from hd 11 _ (by simp) rfl)
              obtain ⟨x, rfl⟩ := upd_of (show x 14 = .int .i64 eL from hd 14 _ (by simp) rfl)
              show wpOp Try.prog _ _ 15 K (⟨#[_, _, _, _, _, _, _, _, _, _, _, _, _, _, _, _, _, _, _, _, _, _, _, _, _, _, _, _, _, _, _, _, _, _, _, _, _, _, _, _, _, _, _, _, _, _, _, _, _, _, _, _, _, _, _, _, _, _, _, _, _, _, _, _, _, _, _, _, _, _, x 0, x 1, x 2, x 3, x 4, x 5, x 6, x 7, x 8, x 9, x 10, .int .i64 eH, x 12, x 13, .int .i64 eL, x 15, x 16, x 17, x 18, _, _, _, _, _, _, _, _, _, _, _, _, _, _, _, _, _, _, _, _, _, _, _, _, _, _, _, _, _, _, _, _, _, _, _, _, _, _, _, _, _, _, _, _, _, _, _, _, _, _, _, _, _, _, _, _, _, _, _, _, _, _, _, _, _, _, _, _, _, _, _, _, _, _, _, _, _, _, _, _, _, _, _, _, _, _, _, _, _, _, _, _, _, _, _, _, _, _, _, _, _, _, _, _, _, _, _, _, _, _, _, _, _, _, _, _, _, _, _, _, _, _, _, _, _, _, _, _, _, _, _, _, _, _, _, _, _, _, _, _, _, _, _, _, _, _, _, _, _, _, _, _, _, _, _, _, _, _, _, _, _], []⟩ : Act) v
              refine wpOp_step rfl (fun K' hK' => ?_)
              go_simp
              exact hK' _ _ (hK _ _ (Below.refl _ _) (at_of rfl (rfl)))
            · obtain ⟨x, rfl⟩ := upd_of (show x 8 = .int .i64 y0 from hd 8 _ (by simp) rfl)
              obtain ⟨x, rfl⟩ := upd_of (show x 15 = .int .i64 (eH - eL) from hd 15 _ (by simp) rfl)
              show wpOp Try.prog _ _ 16 K (⟨#[_, _, _, _, _, _, _, _, _, _, _, _, _, _, _, _, _, _, _, _, _, _, _, _, _, _, _, _, _, _, _, _, _, _, _, _, _, _, _, _, _, _, _, _, _, _, _, _, _, _, _, _, _, _, _, _, _, _, _, _, _, _, _, _, _, _, _, _, _, _, x 0, x 1, x 2, x 3, x 4, x 5, x 6, x 7, .int .i64 y0, x 9, x 10, x 11, x 12, x 13, x 14, .int .i64 (eH - eL), x 16, x 17, x 18, _, _, _, _, _, _, _, _, _, _, _, _, _, _, _, _, _, _, _, _, _, _, _, _, _, _, _, _, _, _, _, _, _, _, _, _, _, _, _, _, _, _, _, _, _, _, _, _, _, _, _, _, _, _, _, _, _, _, _, _, _, _, _, _, _, _, _, _, _, _, _, _, _, _, _, _, _, _, _, _, _, _, _, _, _, _, _, _, _, _, _, _, _, _, _, _, _, _, _, _, _, _, _, _, _, _, _, _, _, _, _, _, _, _, _, _, _, _, _, _, _, _, _, _, _, _, _, _, _, _, _, _, _, _, _, _, _, _, _, _, _, _, _, _, _, _, _, _, _, _, _, _, _, _, _, _, _, _, _, _, _], []⟩ : Act) v
              refine wpOp_step rfl (fun K' hK' => ?_)
              go_simp
              exact hK' _ _ (hK _ _ (Below.refl _ _) (at_of rfl (rfl)))
            · obtain ⟨x, rfl⟩ := upd_of (show x 16 = .int .i64 M from hd 16 _ (by simp) rfl)
              show wpOp Try.prog _ _ 17 K (⟨#[_, _, _, _, _, _, _, _, _, _, _, _, _, _, _, _, _, _, _, _, _, _, _, _, _, _, _, _, _, _, _, _, _, _, _, _, _, _, _, _, _, _, _, _, _, _, _, _, _, _, _, _, _, _, _, _, _, _, _, _, _, _, _, _, _, _, _, _, _, _, x 0, x 1, x 2, x 3, x 4, x 5, x 6, x 7, x 8, x 9, x 10, x 11, x 12, x 13, x 14, x 15, .int .i64 M, x 17, x 18, _, _, _, _, _, _, _, _, _, _, _, _, _, _, _, _, _, _, _, _, _, _, _, _, _, _, _, _, _, _, _, _, _, _, _, _, _, _, _, _, _, _, _, _, _, _, _, _, _, _, _, _, _, _, _, _, _, _, _, _, _, _, _, _, _, _, _, _, _, _, _, _, _, _, _, _, _, _, _, _, _, _, _, _, _, _, _, _, _, _, _, _, _, _, _, _, _, _, _, _, _, _, _, _, _, _, _, _, _, _, _, _, _, _, _, _, _, _, _, _, _, _, _, _, _, _, _, _, _, _, _, _, _, _, _, _, _, _, _, _, _, _, _, _, _, _, _, _, _, _, _, _, _, _, _, _, _, _, _, _, _], []⟩ : Act) v
              refine wpOp_step rfl (fun K' hK' => ?_)
              go_simp
              exact hK' _ _ (hK _ _ (Below.refl _ _) (at_of rfl (rfl)))
            · obtain ⟨x, rfl⟩ := upd_of (show x 2 = .int .i64 eL from hd 2 _ (by simp) rfl)
              obtain ⟨x, rfl⟩ := upd_of (show x 17 = .int .i64 (M / 255) from hd 17 _ (by simp) rfl)
              show wpOp Try.prog _ _ 18 K (⟨#[_, _, _, _, _, _, _, _, _, _, _, _, _, _, _, _, _, _, _, _, _, _, _, _, _, _, _, _, _, _, _, _, _, _, _, _, _, _, _, _, _, _, _, _, _, _, _, _, _, _, _, _, _, _, _, _, _, _, _, _, _, _, _, _, _, _, _, _, _, _, x 0, x 1, .int .i64 eL, x 3, x 4, x 5, x 6, x 7, x 8, x 9, x 10, x 11, x 12, x 13, x 14, x 15, x 16, .int .i64 (M / 255), x 18, _, _, _, _, _, _, _, _, _, _, _, _, _, _, _, _, _, _, _, _, _, _, _, _, _, _, _, _, _, _, _, _, _, _, _, _, _, _, _, _, _, _, _, _, _, _, _, _, _, _, _, _, _, _, _, _, _, _, _, _, _, _, _, _, _, _, _, _, _, _, _, _, _, _, _, _, _, _, _, _, _, _, _, _, _, _, _, _, _, _, _, _, _, _, _, _, _, _, _, _, _, _, _, _, _, _, _, _, _, _, _, _, _, _, _, _, _, _, _, _, _, _, _, _, _, _, _, _, _, _, _, _, _, _, _, _, _, _, _, _, _, _, _, _, _, _, _, _, _, _, _, _, _, _, _, _, _, _, _, _, _], []⟩ : Act) v
              refine wpOp_step rfl (fun K' hK' => ?_)
              go_simp
              exact hK' _ _ (hK _ _ (Below.refl _ _) (at_of rfl (rfl)))
          case fin8_2 =>
            rintro x v gv hd
            obtain ⟨x, rfl⟩ := upd_of (show x 18 = .int .i64 E from hd 18 _ (by omega) rfl)
            clear hd
            show wpList Try.prog _ _ (List.drop 19 _) (⟨#[_, _, _, _, _, _, _, _, _, _, _, _, _, _, _, _, _, _, _, _, _, _, _, _, _, _, _, _, _, _, _, _, _, _, _, _, _, _, _, _, _, _, _, _, _, _, _, _, _, _, _, _, _, _, _, _, _, _, _, _, _, _, _, _, _, _, _, _, _, _, x 0, x 1, x 2, x 3, x 4, x 5, x 6, x 7, x 8, x 9, x 10, x 11, x 12, x 13, x 14, x 15, x 16, x 17, .int .i64 E, _, _, _, _, _, _, _, _, _, _, _, _, _, _, _, _, _, _, _, _, _, _, _, _, _, _, _, _, _, _, _, _, _, _, _, _, _, _, _, _, _, _, _, _, _, _, _, _, _, _, _, _, _, _, _, _, _, _, _, _, _, _, _, _, _, _, _, _, _, _, _, _, _, _, _, _, _, _, _, _, _, _, _, _, _, _, _, _, _, _, _, _, _, _, _, _, _, _, _, _, _, _, _, _, _, _, _, _, _, _, _, _, _, _, _, _, _, _, _, _, _, _, _, _, _, _, _, _, _, _, _, _, _, _, _, _, _, _, _, _, _, _, _, _, _, _, _, _, _, _, _, _, _, _, _, _, _, _, _, _, _], []⟩ : Act) v
            simp only [List.drop_succ_cons, List.drop_zero]
            have hS := hS.keep gv
            have t1 := gv.keep t1
            have p2 := gv.keep p2
            have p3 := gv.keep p3
            clear gv t0 p0 p1 p4 p5
            go_upto_region 9 with fail
            refine (show (∀ z : Nat → Value, Code.wp Try.prog _ _ ⟨#[L 0, L 1, .pointer (some ⟨w.heap.size, 0, none⟩), .pointer (some ⟨(w.heap.size + 1), 0, none⟩), z 4, .pointer (some ⟨B5, 0, none⟩), .pointer (some ⟨B6, 0, none⟩), .int .i64 0, .int .i64 ((2 : Nat) : Int), .int .i64 E, z 10, z 11, z 12, z 13, z 14, z 15, z 16, undef, undef, undef, L 20, L 21, L 22, L 23, L 24, L 25, L 26, L 27, L 28, L 29, L 30, L 31, L 32, L 33, L 34, L 35, L 36, L 37, L 38, L 39, L 40, L 41, L 42, L 43, L 44, L 45, L 46, L 47, L 48, L 49, L 50, L 51, L 52, L 53, L 54, L 55, L 56, L 57, L 58, L 59, L 60, L 61, L 62, L 63, L 64, L 65, z 66, z 67, z 68, z 69, z 70, z 71, z 72, z 73, z 74, z 75, z 76, z 77, z 78, z 79, z 80, z 81, z 82, z 83, z 84, z 85, z 86, z 87, z 88, z 89, z 90, z 91, z 92, z 93, z 94, z 95, z 96, z 97, z 98, z 99, z 100, z 101, z 102, z 103, z 104, z 105, z 106, z 107, z 108, z 109, z 110, z 111, z 112, z 113, z 114, z 115, z 116, z 117, z 118, z 119, z 120, z 121, z 122, z 123, z 124, z 125, z 126, z 127, z 128, z 129, z 130, z 131, z 132, z 133, z 134, z 135, z 136, z 137, z 138, z 139, z 140, z 141, z 142, z 143, z 144, z 145, z 146, z 147, z 148, z 149, z 150, z 151, z 152, z 153, z 154, z 155, z 156, z 157, z 158, z 159, z 160, z 161, z 162, z 163, z 164, z 165, z 166, z 167, z 168, z 169, z 170, z 171, z 172, z 173, z 174, z 175, z 176, z 177, z 178, z 179, z 180, z 181, z 182, z 183, z 184, z 185, z 186, z 187, z 188, z 189, z 190, z 191, z 192, z 193, z 194, z 195, z 196, z 197, z 198, z 199, z 200, z 201, z 202, z 203, z 204, z 205, z 206, z 207, z 208, undef, undef, undef, undef, undef, undef, undef, undef, undef, undef, undef, undef, undef, undef, undef, undef, undef, undef, undef, undef, undef, undef, undef, undef, undef, undef, undef, undef, undef, undef, undef, undef, undef, undef, undef, undef, undef, undef, undef, undef, undef], []⟩ _) → _ from fun h => h ((fun l : List Value => fun i => l.getD i undef) [undef, undef, undef, undef, _, undef, undef, undef, undef, undef, _, _, _, _, _, _, _, undef, undef, undef, undef, undef, undef, undef, undef, undef, undef, undef, undef, undef, undef, undef, undef, undef, undef, undef, undef, undef, undef, undef, undef, undef, undef, undef, undef, undef, undef, undef, undef, undef, undef, undef, undef, undef, undef, undef, undef, undef, undef, undef, undef, undef, undef, undef, undef, undef, _, _, _, _, _, _, _, _, _, _, _, _, _, _, _, _, _, _, _, _, _, _, _, _, _, _, _, _, _, _, _, _, _, _, _, _, _, _, _, _, _, _, _, _, _, _, _, _, _, _, _, _, _, _, _, _, _, _, _, _, _, _, _, _, _, _, _, _, _, _, _, _, _, _, _, _, _, _, _, _, _, _, _, _, _, _, _, _, _, _, _, _, _, _, _, _, _, _, _, _, _, _, _, _, _, _, _, _, _, _, _, _, _, _, _, _, _, _, _, _, _, _, _, _, _, _, _, _, _, _, _, _, _, _, _, _, _, _, _, _, _, _, _, undef, undef, undef, undef, undef, undef, undef, undef, undef, undef, undef, undef, undef, undef, undef, undef, undef, undef, undef, undef, undef, undef, undef, undef, undef, undef, undef, undef, undef, undef, undef, undef, undef, undef, undef, undef, undef, undef, undef, undef, undef])) ?_
            intro z
            dsimp only
            refine wp_region_facts 19 [(1, 0), (2, 1), (4, 3), (5, 4), (6, 5), (8, 6), (8, 7), (10, 9), (11, 10), (13, 12), (14, 13), (15, 11), (15, 14), (16, 8), (16, 15), (17, 16), (18, 2), (18, 17)] (fun x => ⟨#[L 0, L 1, .pointer (some ⟨w.heap.size, 0, none⟩), .pointer (some ⟨(w.heap.size + 1), 0, none⟩), z 4, .pointer (some ⟨B5, 0, none⟩), .pointer (some ⟨B6, 0, none⟩), .int .i64 0, .int .i64 ((2 : Nat) : Int), .int .i64 E, z 10, z 11, z 12, z 13, z 14, z 15, z 16, undef, undef, undef, L 20, L 21, L 22, L 23, L 24, L 25, L 26, L 27, L 28, L 29, L 30, L 31, L 32, L 33, L 34, L 35, L 36, L 37, L 38, L 39, L 40, L 41, L 42, L 43, L 44, L 45, L 46, L 47, L 48, L 49, L 50, L 51, L 52, L 53, L 54, L 55, L 56, L 57, L 58, L 59, L 60, L 61, L 62, L 63, L 64, L 65, z 66, z 67, z 68, z 69, z 70, z 71, z 72, z 73, z 74, z 75, z 76, z 77, z 78, z 79, z 80, z 81, z 82, z 83, z 84, z 85, z 86, z 87, z 88, x 0, x 1, x 2, x 3, x 4, x 5, x 6, x 7, x 8, x 9, x 10, x 11, x 12, x 13, x 14, x 15, x 16, x 17, x 18, z 108, z 109, z 110, z 111, z 112, z 113, z 114, z 115, z 116, z 117, z 118, z 119, z 120, z 121, z 122, z 123, z 124, z 125, z 126, z 127, z 128, z 129, z 130, z 131, z 132, z 133, z 134, z 135, z 136, z 137, z 138, z 139, z 140, z 141, z 142, z 143, z 144, z 145, z 146, z 147, z 148, z 149, z 150, z 151, z 152, z 153, z 154, z 155, z 156, z 157, z 158, z 159, z 160, z 161, z 162, z 163, z 164, z 165, z 166, z 167, z 168, z 169, z 170, z 171, z 172, z 173, z 174, z 175, z 176, z 177, z 178, z 179, z 180, z 181, z 182, z 183, z 184, z 185, z 186, z 187, z 188, z 189, z 190, z 191, z 192, z 193, z 194, z 195, z 196, z 197, z 198, z 199, z 200, z 201, z 202, z 203, z 204, z 205, z 206, z 207, z 208, undef, undef, undef, undef, undef, undef, undef, undef, undef, undef, undef, undef, undef, undef, undef, undef, undef, undef, undef, undef, undef, undef, undef, undef, undef, undef, undef, undef, undef, undef, undef, undef, undef, undef, undef, undef, undef, undef, undef, undef, undef], []⟩) (fun i => z (i + 89)) [fun _ x => x = .pointer (some ⟨B5, 2, none⟩), fun _ x => x = .pointer (some ⟨B5, 2, none⟩), fun _ x => x = .int .i64 cL, fun _ x => x = .pointer (some ⟨(w.heap.size + 1), 1, none⟩), fun _ x => x = .int .u8 y1, fun _ x => x = .int .i64 y1, fun _ x => x = .agg #[.int .i64 0, .int .i64 255, .int .i64 y1], fun _ x => x = .int .i64 ((2 : Nat) : Int), fun _ x => x = .int .i64 y1, fun _ x => x = .pointer (some ⟨B5, 2, none⟩), fun _ x => x = .pointer (some ⟨B5, 3, none⟩), fun _ x => x = .int .i64 cH, fun _ x => x = .pointer (some ⟨B5, 2, none⟩), fun _ x => x = .pointer (some ⟨B5, 2, none⟩), fun _ x => x = .int .i64 cL, fun _ x => x = .int .i64 (cH - cL), fun _ x => x = .int .i64 N, fun _ x => x = .int .i64 (N / 255), fun _ x => x = .int .i64 C] (by rfl) (by kernel_rfl) (by kernel_rfl) (by kernel_rfl) (stays_cons (Stays.eq _) (stays_cons (Stays.eq _) (stays_cons (Stays.eq _) (stays_cons (Stays.eq _) (stays_cons (Stays.eq _) (stays_cons (Stays.eq _) (stays_cons (Stays.eq _) (stays_cons (Stays.eq _) (stays_cons (Stays.eq _) (stays_cons (Stays.eq _) (stays_cons (Stays.eq _) (stays_cons (Stays.eq _) (stays_cons (Stays.eq _) (stays_cons (Stays.eq _) (stays_cons (Stays.eq _) (stays_cons (Stays.eq _) (stays_cons (Stays.eq _) (stays_cons (Stays.eq _) (stays_cons (Stays.eq _) stays_nil))))))))))))))))))) ?step9_2 ?fin9_2
            case step9_2 =>
              rintro i hi x v gv hd K hK
              have hi8 : i = 0 ∨ i = 1 ∨ i = 2 ∨ i = 3 ∨ i = 4 ∨ i = 5 ∨ i = 6 ∨ i = 7 ∨ i = 8 ∨ i = 9 ∨ i = 10 ∨ i = 11 ∨ i = 12 ∨ i = 13 ∨ i = 14 ∨ i = 15 ∨ i = 16 ∨ i = 17 ∨ i = 18 := by omega
              rcases hi8 with rfl | rfl | rfl | rfl | rfl | rfl | rfl | rfl | rfl | rfl | rfl | rfl | rfl | rfl | rfl | rfl | rfl | rfl | rfl
              · show wpOp Try.prog _ _ 0 K (⟨#[_, _, _, _, _, _, _, _, _, _, _, _, _, _, _, _, _, _, _, _, _, _, _, _, _, _, _, _, _, _, _, _, _, _, _, _, _, _, _, _, _, _, _, _, _, _, _, _, _, _, _, _, _, _, _, _, _, _, _, _, _, _, _, _, _, _, _, _, _, _, _, _, _, _, _, _, _, _, _, _, _, _, _, _, _, _, _, _, _, x 0, x 1, x 2, x 3, x 4, x 5, x 6, x 7, x 8, x 9, x 10, x 11, x 12, x 13, x 14, x 15, x 16, x 17, x 18, _, _, _, _, _, _, _, _, _, _, _, _, _, _, _, _, _, _, _, _, _, _, _, _, _, _, _, _, _, _, _, _, _, _, _, _, _, _, _, _, _, _, _, _, _, _, _, _, _, _, _, _, _, _, _, _, _, _, _, _, _, _, _, _, _, _, _, _, _, _, _, _, _, _, _, _, _, _, _, _, _, _, _, _, _, _, _, _, _, _, _, _, _, _, _, _, _, _, _, _, _, _, _, _, _, _, _, _, _, _, _, _, _, _, _, _, _, _, _, _, _, _, _, _, _, _, _, _, _, _, _, _, _, _, _, _, _, _, _, _, _, _], []⟩ : Act) v
                refine wpOp_step rfl (fun K' hK' => ?_)
                go_simp
                exact hK' _ _ (hK _ _ (Below.refl _ _) (at_of rfl (rfl)))
              · obtain ⟨x, rfl⟩ := upd_of (show x 0 = .pointer (some ⟨B5, 2, none⟩) from hd 0 _ (by simp) rfl)
                show wpOp Try.prog _ _ 1 K (⟨#[_, _, _, _, _, _, _, _, _, _, _, _, _, _, _, _, _, _, _, _, _, _, _, _, _, _, _, _, _, _, _, _, _, _, _, _, _, _, _, _, _, _, _, _, _, _, _, _, _, _, _, _, _, _, _, _, _, _, _, _, _, _, _, _, _, _, _, _, _, _, _, _, _, _, _, _, _, _, _, _, _, _, _, _, _, _, _, _, _, .pointer (some ⟨B5, 2, none⟩), x 1, x 2, x 3, x 4, x 5, x 6, x 7, x 8, x 9, x 10, x 11, x 12, x 13, x 14, x 15, x 16, x 17, x 18, _, _, _, _, _, _, _, _, _, _, _, _, _, _, _, _, _, _, _, _, _, _, _, _, _, _, _, _, _, _, _, _, _, _, _, _, _, _, _, _, _, _, _, _, _, _, _, _, _, _, _, _, _, _, _, _, _, _, _, _, _, _, _, _, _, _, _, _, _, _, _, _, _, _, _, _, _, _, _, _, _, _, _, _, _, _, _, _, _, _, _, _, _, _, _, _, _, _, _, _, _, _, _, _, _, _, _, _, _, _, _, _, _, _, _, _, _, _, _, _, _, _, _, _, _, _, _, _, _, _, _, _, _, _, _, _, _, _, _, _, _, _], []⟩ : Act) v
                refine wpOp_step rfl (fun K' hK' => ?_)
                go_simp
                exact hK' _ _ (hK _ _ (Below.refl _ _) (at_of rfl (rfl)))
              · obtain ⟨x, rfl⟩ := upd_of (show x 1 = .pointer (some ⟨B5, 2, none⟩) from hd 1 _ (by simp) rfl)
                show wpOp Try.prog _ _ 2 K (⟨#[_, _, _, _, _, _, _, _, _, _, _, _, _, _, _, _, _, _, _, _, _, _, _, _, _, _, _, _, _, _, _, _, _, _, _, _, _, _, _, _, _, _, _, _, _, _, _, _, _, _, _, _, _, _, _, _, _, _, _, _, _, _, _, _, _, _, _, _, _, _, _, _, _, _, _, _, _, _, _, _, _, _, _, _, _, _, _, _, _, x 0, .pointer (some ⟨B5, 2, none⟩), x 2, x 3, x 4, x 5, x 6, x 7, x 8, x 9, x 10, x 11, x 12, x 13, x 14, x 15, x 16, x 17, x 18, _, _, _, _, _, _, _, _, _, _, _, _, _, _, _, _, _, _, _, _, _, _, _, _, _, _, _, _, _, _, _, _, _, _, _, _, _, _, _, _, _, _, _, _, _, _, _, _, _, _, _, _, _, _, _, _, _, _, _, _, _, _, _, _, _, _, _, _, _, _, _, _, _, _, _, _, _, _, _, _, _, _, _, _, _, _, _, _, _, _, _, _, _, _, _, _, _, _, _, _, _, _, _, _, _, _, _, _, _, _, _, _, _, _, _, _, _, _, _, _, _, _, _, _, _, _, _, _, _, _, _, _, _, _, _, _, _, _, _, _, _, _], []⟩ : Act) v
                refine wpOp_step rfl (fun K' hK' => ?_)
                have q := gv.keep p2
                go_simp
                exact hK' _ _ (hK _ _ (Below.refl _ _) (at_of rfl (rfl)))
              · show wpOp Try.prog _ _ 3 K (⟨#[_, _, _, _, _, _, _, _, _, _, _, _, _, _, _, _, _, _, _, _, _, _, _, _, _, _, _, _, _, _, _, _, _, _, _, _, _, _, _, _, _, _, _, _, _, _, _, _, _, _, _, _, _, _, _, _, _, _, _, _, _, _, _, _, _, _, _, _, _, _, _, _, _, _, _, _, _, _, _, _, _, _, _, _, _, _, _, _, _, x 0, x 1, x 2, x 3, x 4, x 5, x 6, x 7, x 8, x 9, x 10, x 11, x 12, x 13, x 14, x 15, x 16, x 17, x 18, _, _, _, _, _, _, _, _, _, _, _, _, _, _, _, _, _, _, _, _, _, _, _, _, _, _, _, _, _, _, _, _, _, _, _, _, _, _, _, _, _, _, _, _, _, _, _, _, _, _, _, _, _, _, _, _, _, _, _, _, _, _, _, _, _, _, _, _, _, _, _, _, _, _, _, _, _, _, _, _, _, _, _, _, _, _, _, _, _, _, _, _, _, _, _, _, _, _, _, _, _, _, _, _, _, _, _, _, _, _, _, _, _, _, _, _, _, _, _, _, _, _, _, _, _, _, _, _, _, _, _, _, _, _, _, _, _, _, _, _, _, _], []⟩ : Act) v
                refine wpOp_step rfl (fun K' hK' => ?_)
                go_simp
                exact hK' _ _ (hK _ _ (Below.refl _ _) (at_of rfl (rfl)))
              · obtain ⟨x, rfl⟩ := upd_of (show x 3 = .pointer (some ⟨(w.heap.size + 1), 1, none⟩) from hd 3 _ (by simp) rfl)
                show wpOp Try.prog _ _ 4 K (⟨#[_, _, _, _, _, _, _, _, _, _, _, _, _, _, _, _, _, _, _, _, _, _, _, _, _, _, _, _, _, _, _, _, _, _, _, _, _, _, _, _, _, _, _, _, _, _, _, _, _, _, _, _, _, _, _, _, _, _, _, _, _, _, _, _, _, _, _, _, _, _, _, _, _, _, _, _, _, _, _, _, _, _, _, _, _, _, _, _, _, x 0, x 1, x 2, .pointer (some ⟨(w.heap.size + 1), 1, none⟩), x 4, x 5, x 6, x 7, x 8, x 9, x 10, x 11, x 12, x 13, x 14, x 15, x 16, x 17, x 18, _, _, _, _, _, _, _, _, _, _, _, _, _, _, _, _, _, _, _, _, _, _, _, _, _, _, _, _, _, _, _, _, _, _, _, _, _, _, _, _, _, _, _, _, _, _, _, _, _, _, _, _, _, _, _, _, _, _, _, _, _, _, _, _, _, _, _, _, _, _, _, _, _, _, _, _, _, _, _, _, _, _, _, _, _, _, _, _, _, _, _, _, _, _, _, _, _, _, _, _, _, _, _, _, _, _, _, _, _, _, _, _, _, _, _, _, _, _, _, _, _, _, _, _, _, _, _, _, _, _, _, _, _, _, _, _, _, _, _, _, _, _], []⟩ : Act) v
                refine wpOp_step rfl (fun K' hK' => ?_)
                have q := gv.keep t1
                go_simp
                exact hK' _ _ (hK _ _ (Below.refl _ _) (at_of rfl (rfl)))
              · obtain ⟨x, rfl⟩ := upd_of (show x 4 = .int .u8 y1 from hd 4 _ (by simp) rfl)
                show wpOp Try.prog _ _ 5 K (⟨#[_, _, _, _, _, _, _, _, _, _, _, _, _, _, _, _, _, _, _, _, _, _, _, _, _, _, _, _, _, _, _, _, _, _, _, _, _, _, _, _, _, _, _, _, _, _, _, _, _, _, _, _, _, _, _, _, _, _, _, _, _, _, _, _, _, _, _, _, _, _, _, _, _, _, _, _, _, _, _, _, _, _, _, _, _, _, _, _, _, x 0, x 1, x 2, x 3, .int .u8 y1, x 5, x 6, x 7, x 8, x 9, x 10, x 11, x 12, x 13, x 14, x 15, x 16, x 17, x 18, _, _, _, _, _, _, _, _, _, _, _, _, _, _, _, _, _, _, _, _, _, _, _, _, _, _, _, _, _, _, _, _, _, _, _, _, _, _, _, _, _, _, _, _, _, _, _, _, _, _, _, _, _, _, _, _, _, _, _, _, _, _, _, _, _, _, _, _, _, _, _, _, _, _, _, _, _, _, _, _, _, _, _, _, _, _, _, _, _, _, _, _, _, _, _, _, _, _, _, _, _, _, _, _, _, _, _, _, _, _, _, _, _, _, _, _, _, _, _, _, _, _, _, _, _, _, _, _, _, _, _, _, _, _, _, _, _, _, _, _, _, _], []⟩ : Act) v
                refine wpOp_step rfl (fun K' hK' => ?_)
                go_simp
                exact hK' _ _ (hK _ _ (Below.refl _ _) (at_of rfl (rfl)))
              · obtain ⟨x, rfl⟩ := upd_of (show x 5 = .int .i64 y1 from hd 5 _ (by simp) rfl)
                show wpOp Try.prog _ _ 6 K (⟨#[_, _, _, _, _, _, _, _, _, _, _, _, _, _, _, _, _, _, _, _, _, _, _, _, _, _, _, _, _, _, _, _, _, _, _, _, _, _, _, _, _, _, _, _, _, _, _, _, _, _, _, _, _, _, _, _, _, _, _, _, _, _, _, _, _, _, _, _, _, _, _, _, _, _, _, _, _, _, _, _, _, _, _, _, _, _, _, _, _, x 0, x 1, x 2, x 3, x 4, .int .i64 y1, x 6, x 7, x 8, x 9, x 10, x 11, x 12, x 13, x 14, x 15, x 16, x 17, x 18, _, _, _, _, _, _, _, _, _, _, _, _, _, _, _, _, _, _, _, _, _, _, _, _, _, _, _, _, _, _, _, _, _, _, _, _, _, _, _, _, _, _, _, _, _, _, _, _, _, _, _, _, _, _, _, _, _, _, _, _, _, _, _, _, _, _, _, _, _, _, _, _, _, _, _, _, _, _, _, _, _, _, _, _, _, _, _, _, _, _, _, _, _, _, _, _, _, _, _, _, _, _, _, _, _, _, _, _, _, _, _, _, _, _, _, _, _, _, _, _, _, _, _, _, _, _, _, _, _, _, _, _, _, _, _, _, _, _, _, _, _, _], []⟩ : Act) v
                refine wpOp_step rfl (fun K' hK' => ?_)
                go_simp
                exact hK' _ _ (hK _ _ (Below.refl _ _) (at_of rfl (rfl)))
              · show wpOp Try.prog _ _ 7 K (⟨#[_, _, _, _, _, _, _, _, _, _, _, _, _, _, _, _, _, _, _, _, _, _, _, _, _, _, _, _, _, _, _, _, _, _, _, _, _, _, _, _, _, _, _, _, _, _, _, _, _, _, _, _, _, _, _, _, _, _, _, _, _, _, _, _, _, _, _, _, _, _, _, _, _, _, _, _, _, _, _, _, _, _, _, _, _, _, _, _, _, x 0, x 1, x 2, x 3, x 4, x 5, x 6, x 7, x 8, x 9, x 10, x 11, x 12, x 13, x 14, x 15, x 16, x 17, x 18, _, _, _, _, _, _, _, _, _, _, _, _, _, _, _, _, _, _, _, _, _, _, _, _, _, _, _, _, _, _, _, _, _, _, _, _, _, _, _, _, _, _, _, _, _, _, _, _, _, _, _, _, _, _, _, _, _, _, _, _, _, _, _, _, _, _, _, _, _, _, _, _, _, _, _, _, _, _, _, _, _, _, _, _, _, _, _, _, _, _, _, _, _, _, _, _, _, _, _, _, _, _, _, _, _, _, _, _, _, _, _, _, _, _, _, _, _, _, _, _, _, _, _, _, _, _, _, _, _, _, _, _, _, _, _, _, _, _, _, _, _, _], []⟩ : Act) v
                refine wpOp_step rfl (fun K' hK' => ?_)
                go_simp
                exact hK' _ _ (hK _ _ (Below.refl _ _) (at_of rfl (rfl)))
              · obtain ⟨x, rfl⟩ := upd_of (show x 6 = .agg #[.int .i64 0, .int .i64 255, .int .i64 y1] from hd 6 _ (by simp) rfl)
                obtain ⟨x, rfl⟩ := upd_of (show x 7 = .int .i64 ((2 : Nat) : Int) from hd 7 _ (by simp) rfl)
                show wpOp Try.prog _ _ 8 K (⟨#[_, _, _, _, _, _, _, _, _, _, _, _, _, _, _, _, _, _, _, _, _, _, _, _, _, _, _, _, _, _, _, _, _, _, _, _, _, _, _, _, _, _, _, _, _, _, _, _, _, _, _, _, _, _, _, _, _, _, _, _, _, _, _, _, _, _, _, _, _, _, _, _, _, _, _, _, _, _, _, _, _, _, _, _, _, _, _, _, _, x 0, x 1, x 2, x 3, x 4, x 5, .agg #[.int .i64 0, .int .i64 255, .int .i64 y1], .int .i64 ((2 : Nat) : Int), x 8, x 9, x 10, x 11, x 12, x 13, x 14, x 15, x 16, x 17, x 18, _, _, _, _, _, _, _, _, _, _, _, _, _, _, _, _, _, _, _, _, _, _, _, _, _, _, _, _, _, _, _, _, _, _, _, _, _, _, _, _, _, _, _, _, _, _, _, _, _, _, _, _, _, _, _, _, _, _, _, _, _, _, _, _, _, _, _, _, _, _, _, _, _, _, _, _, _, _, _, _, _, _, _, _, _, _, _, _, _, _, _, _, _, _, _, _, _, _, _, _, _, _, _, _, _, _, _, _, _, _, _, _, _, _, _, _, _, _, _, _, _, _, _, _, _, _, _, _, _, _, _, _, _, _, _, _, _, _, _, _, _, _], []⟩ : Act) v
                refine wpOp_step rfl (fun K' hK' => ?_)
                go_simp
                exact hK' _ _ (hK _ _ (Below.refl _ _) (at_of rfl (rfl)))
              · show wpOp Try.prog _ _ 9 K (⟨#[_, _, _, _, _, _, _, _, _, _, _, _, _, _, _, _, _, _, _, _, _, _, _, _, _, _, _, _, _, _, _, _, _, _, _, _, _, _, _, _, _, _, _, _, _, _, _, _, _, _, _, _, _, _, _, _, _, _, _, _, _, _, _, _, _, _, _, _, _, _, _, _, _, _, _, _, _, _, _, _, _, _, _, _, _, _, _, _, _, x 0, x 1, x 2, x 3, x 4, x 5, x 6, x 7, x 8, x 9, x 10, x 11, x 12, x 13, x 14, x 15, x 16, x 17, x 18, _, _, _, _, _, _, _, _, _, _, _, _, _, _, _, _, _, _, _, _, _, _, _, _, _, _, _, _, _, _, _, _, _, _, _, _, _, _, _, _, _, _, _, _, _, _, _, _, _, _, _, _, _, _, _, _, _, _, _, _, _, _, _, _, _, _, _, _, _, _, _, _, _, _, _, _, _, _, _, _, _, _, _, _, _, _, _, _, _, _, _, _, _, _, _, _, _, _, _, _, _, _, _, _, _, _, _, _, _, _, _, _, _, _, _, _, _, _, _, _, _, _, _, _, _, _, _, _, _, _, _, _, _, _, _, _, _, _, _, _, _, _], []⟩ : Act) v
                refine wpOp_step rfl (fun K' hK' => ?_)
                go_simp
                exact hK' _ _ (hK _ _ (Below.refl _ _) (at_of rfl (rfl)))
              · obtain ⟨x, rfl⟩ := upd_of (show x 9 = .pointer (some ⟨B5, 2, none⟩) from hd 9 _ (by simp) rfl)
                show wpOp Try.prog _ _ 10 K (⟨#[_, _, _, _, _, _, _, _, _, _, _, _, _, _, _, _, _, _, _, _, _, _, _, _, _, _, _, _, _, _, _, _, _, _, _, _, _, _, _, _, _, _, _, _, _, _, _, _, _, _, _, _, _, _, _, _, _, _, _, _, _, _, _, _, _, _, _, _, _, _, _, _, _, _, _, _, _, _, _, _, _, _, _, _, _, _, _, _, _, x 0, x 1, x 2, x 3, x 4, x 5, x 6, x 7, x 8, .pointer (some ⟨B5, 2, none⟩), x 10, x 11, x 12, x 13, x 14, x 15, x 16, x 17, x 18, _, _, _, _, _, _, _, _, _, _, _, _, _, _, _, _, _, _, _, _, _, _, _, _, _, _, _, _, _, _, _, _, _, _, _, _, _, _, _, _, _, _, _, _, _, _, _, _, _, _, _, _, _, _, _, _, _, _, _, _, _, _, _, _, _, _, _, _, _, _, _, _, _, _, _, _, _, _, _, _, _, _, _, _, _, _, _, _, _, _, _, _, _, _, _, _, _, _, _, _, _, _, _, _, _, _, _, _, _, _, _, _, _, _, _, _, _, _, _, _, _, _, _, _, _, _, _, _, _, _, _, _, _, _, _, _, _, _, _, _, _, _], []⟩ : Act) v
                refine wpOp_step rfl (fun K' hK' => ?_)
                go_simp
                exact hK' _ _ (hK _ _ (Below.refl _ _) (at_of rfl (rfl)))
              · obtain ⟨x, rfl⟩ := upd_of (show x 10 = .pointer (some ⟨B5, 3, none⟩) from hd 10 _ (by simp) rfl)
                show wpOp Try.prog _ _ 11 K (⟨#[_, _, _, _, _, _, _, _, _, _, _, _, _, _, _, _, _, _, _, _, _, _, _, _, _, _, _, _, _, _, _, _, _, _, _, _, _, _, _, _, _, _, _, _, _, _, _, _, _, _, _, _, _, _, _, _, _, _, _, _, _, _, _, _, _, _, _, _, _, _, _, _, _, _, _, _, _, _, _, _, _, _, _, _, _, _, _, _, _, x 0, x 1, x 2, x 3, x 4, x 5, x 6, x 7, x 8, x 9, .pointer (some ⟨B5, 3, none⟩), x 11, x 12, x 13, x 14, x 15, x 16, x 17, x 18, _, _, _, _, _, _, _, _, _, _, _, _, _, _, _, _, _, _, _, _, _, _, _, _, _, _, _, _, _, _, _, _, _, _, _, _, _, _, _, _, _, _, _, _, _, _, _, _, _, _, _, _, _, _, _, _, _, _, _, _, _, _, _, _, _, _, _, _, _, _, _, _, _, _, _, _, _, _, _, _, _, _, _, _, _, _, _, _, _, _, _, _, _, _, _, _, _, _, _, _, _, _, _, _, _, _, _, _, _, _, _, _, _, _, _, _, _, _, _, _, _, _, _, _, _, _, _, _, _, _, _, _, _, _, _, _, _, _, _, _, _, _], []⟩ : Act) v
                refine wpOp_step rfl (fun K' hK' => ?_)
                have q := gv.keep p3
                go_simp
                exact hK' _ _ (hK _ _ (Below.refl _ _) (at_of rfl (rfl)))
              · show wpOp Try.prog _ _ 12 K (⟨#[_, _, _, _, _, _, _, _, _, _, _, _, _, _, _, _, _, _, _, _, _, _, _, _, _, _, _, _, _, _, _, _, _, _, _, _, _, _, _, _, _, _, _, _, _, _, _, _, _, _, _, _, _, _, _, _, _, _, _, _, _, _, _, _, _, _, _, _, _, _, _, _, _, _, _, _, _, _, _, _, _, _, _, _, _, _, _, _, _, x 0, x 1, x 2, x 3, x 4, x 5, x 6, x 7, x 8, x 9, x 10, x 11, x 12, x 13, x 14, x 15, x 16, x 17, x 18, _, _, _, _, _, _, _, _, _, _, _, _, _, _, _, _, _, _, _, _, _, _, _, _, _, _, _, _, _, _, _, _, _, _, _, _, _, _, _, _, _, _, _, _, _, _, _, _, _, _, _, _, _, _, _, _, _, _, _, _, _, _, _, _, _, _, _, _, _, _, _, _, _, _, _, _, _, _, _, _, _, _, _, _, _, _, _, _, _, _, _, _, _, _, _, _, _, _, _, _, _, _, _, _, _, _, _, _, _, _, _, _, _, _, _, _, _, _, _, _, _, _, _, _, _, _, _, _, _, _, _, _, _, _, _, _, _, _, _, _, _, _], []⟩ : Act) v
                refine wpOp_step rfl (fun K' hK' => ?_)
                go_simp
                exact hK' _ _ (hK _ _ (Below.refl _ _) (at_of rfl (rfl)))
              · obtain ⟨x, rfl⟩ := upd_of (show x 12 = .pointer (some ⟨B5, 2, none⟩) from hd 12 _ (by simp) rfl)
                show wpOp Try.prog _ _ 13 K (⟨#[_, _, _, _, _, _, _, _, _, _, _, _, _, _, _, _, _, _, _, _, _, _, _, _, _, _, _, _, _, _, _, _, _, _, _, _, _, _, _, _, _, _, _, _, _, _, _, _, _, _, _, _, _, _, _, _, _, _, _, _, _, _, _, _, _, _, _, _, _, _, _, _, _, _, _, _, _, _, _, _, _, _, _, _, _, _, _, _, _, x 0, x 1, x 2, x 3, x 4, x 5, x 6, x 7, x 8, x 9, x 10, x 11, .pointer (some ⟨B5, 2, none⟩), x 13, x 14, x 15, x 16, x 17, x 18, _, _, _, _, _, _, _, _, _, _, _, _, _, _, _, _, _, _, _, _, _, _, _, _, _, _, _, _, _, _, _, _, _, _, _, _, _, _, _, _, _, _, _, _, _, _, _, _, _, _, _, _, _, _, _, _, _, _, _, _, _, _, _, _, _, _, _, _, _, _, _, _, _, _, _, _, _, _, _, _, _, _, _, _, _, _, _, _, _, _, _, _, _, _, _, _, _, _, _, _, _, _, _, _, _, _, _, _, _, _, _, _, _, _, _, _, _, _, _, _, _, _, _, _, _, _, _, _, _, _, _, _, _, _, _, _, _, _, _, _, _, _], []⟩ : Act) v
                refine wpOp_step rfl (fun K' hK' => ?_)
                go_simp
                exact hK' _ _ (hK _ _ (Below.refl _ _) (at_of rfl (rfl)))
              · obtain ⟨x, rfl⟩ := upd_of (show x 13 = .pointer (some ⟨B5, 2, none⟩) from hd 13 _ (by simp) rfl)
                show wpOp Try.prog _ _ 14 K (⟨#[_, _, _, _, _, _, _, _, _, _, _, _, _, _, _, _, _, _, _, _, _, _, _, _, _, _, _, _, _, _, _, _, _, _, _, _, _, _, _, _, _, _, _, _, _, _, _, _, _, _, _, _, _, _, _, _, _, _, _, _, _, _, _, _, _, _, _, _, _, _, _, _, _, _, _, _, _, _, _, _, _, _, _, _, _, _, _, _, _, x 0, x 1, x 2, x 3, x 4, x 5, x 6, x 7, x 8, x 9, x 10, x 11, x 12, .pointer (some ⟨B5, 2, none⟩), x 14, x 15, x 16, x 17, x 18, _, _, _, _, _, _, _, _, _, _, _, _, _, _, _, _, _, _, _, _, _, _, _, _, _, _, _, _, _, _, _, _, _, _, _, _, _, _, _, _, _, _, _, _, _, _, _, _, _, _, _, _, _, _, _, _, _, _, _, _, _, _, _, _, _, _, _, _, _, _, _, _, _, _, _, _, _, _, _, _, _, _, _, _, _, _, _, _, _, _, _, _, _, _, _, _, _, _, _, _, _, _, _, _, _, _, _, _, _, _, _, _, _, _, _, _, _, _, _, _, _, _, _, _, _, _, _, _, _, _, _, _, _, _, _, _, _, _, _, _, _, _], []⟩ : Act) v
                refine wpOp_step rfl (fun K' hK' => ?_)
                have q := gv.keep p2
                go_simp
                exact hK' _ _ (hK _ _ (Below.refl _ _) (at_of rfl (rfl)))
              · obtain ⟨x, rfl⟩ := upd_of (show x 11 = .int .i64 cH from hd 11 _ (by simp) rfl)
                obtain ⟨x, rfl⟩ := upd_of (show x 14 = .int .i64 cL from hd 14 _ (by simp) rfl)
                show wpOp Try.prog _ _ 15 K (⟨#[_, _, _, _, _, _, _, _, _, _, _, _, _, _, _, _, _, _, _, _, _, _, _, _, _, _, _, _, _, _, _, _, _, _, _, _, _, _, _, _, _, _, _, _, _, _, _, _, _, _, _, _, _, _, _, _, _, _, _, _, _, _, _, _, _, _, _, _, _, _, _, _, _, _, _, _, _, _, _, _, _, _, _, _, _, _, _, _, _, x 0, x 1, x 2, x 3, x 4, x 5, x 6, x 7, x 8, x 9, x 10, .int .i64 cH, x 12, x 13, .int .i64 cL, x 15, x 16, x 17, x 18, _, _, _, _, _, _, _, _, _, _, _, _, _, _, _, _, _, _, _, _, _, _, _, _, _, _, _, _, _, _, _, _, _, _, _, _, _, _, _, _, _, _, _, _, _, _, _, _, _, _, _, _, _, _, _, _, _, _, _, _, _, _, _, _, _, _, _, _, _, _, _, _, _, _, _, _, _, _, _, _, _, _, _, _, _, _, _, _, _, _, _, _, _, _, _, _, _, _, _, _, _, _, _, _, _, _, _, _, _, _, _, _, _, _, _, _, _, _, _, _, _, _, _, _, _, _, _, _, _, _, _, _, _, _, _, _, _, _, _, _, _, _], []⟩ : Act) v
                refine wpOp_step rfl (fun K' hK' => ?_)
                go_simp
                exact hK' _ _ (hK _ _ (Below.refl _ _) (at_of rfl (rfl)))
              · obtain ⟨x, rfl⟩ := upd_of (show x 8 = .int .i64 y1 from hd 8 _ (by simp) rfl)
                obtain ⟨x, rfl⟩ := upd_of (show x 15 = .int .i64 (cH - cL) from hd 15 _ (by simp) rfl)
                show wpOp Try.prog _ _ 16 K (⟨#[_, _, _, _, _, _, _, _, _, _, _, _, _, _, _, _, _, _, _, _, _, _, _, _, _, _, _, _, _, _, _, _, _, _, _, _, _, _, _, _, _, _, _, _, _, _, _, _, _, _, _, _, _, _, _, _, _, _, _, _, _, _, _, _, _, _, _, _, _, _, _, _, _, _, _, _, _, _, _, _, _, _, _, _, _, _, _, _, _, x 0, x 1, x 2, x 3, x 4, x 5, x 6, x 7, .int .i64 y1, x 9, x 10, x 11, x 12, x 13, x 14, .int .i64 (cH - cL), x 16, x 17, x 18, _, _, _, _, _, _, _, _, _, _, _, _, _, _, _, _, _, _, _, _, _, _, _, _, _, _, _, _, _, _, _, _, _, _, _, _, _, _, _, _, _, _, _, _, _, _, _, _, _, _, _, _, _, _, _, _, _, _, _, _, _, _, _, _, _, _, _, _, _, _, _, _, _, _, _, _, _, _, _, _, _, _, _, _, _, _, _, _, _, _, _, _, _, _, _, _, _, _, _, _, _, _, _, _, _, _, _, _, _, _, _, _, _, _, _, _, _, _, _, _, _, _, _, _, _, _, _, _, _, _, _, _, _, _, _, _, _, _, _, _, _, _], []⟩ : Act) v
                refine wpOp_step rfl (fun K' hK' => ?_)
                go_simp
                exact hK' _ _ (hK _ _ (Below.refl _ _) (at_of rfl (rfl)))
              · obtain ⟨x, rfl⟩ := upd_of (show x 16 = .int .i64 N from hd 16 _ (by simp) rfl)
                show wpOp Try.prog _ _ 17 K (⟨#[_, _, _, _, _, _, _, _, _, _, _, _, _, _, _, _, _, _, _, _, _, _, _, _, _, _, _, _, _, _, _, _, _, _, _, _, _, _, _, _, _, _, _, _, _, _, _, _, _, _, _, _, _, _, _, _, _, _, _, _, _, _, _, _, _, _, _, _, _, _, _, _, _, _, _, _, _, _, _, _, _, _, _, _, _, _, _, _, _, x 0, x 1, x 2, x 3, x 4, x 5, x 6, x 7, x 8, x 9, x 10, x 11, x 12, x 13, x 14, x 15, .int .i64 N, x 17, x 18, _, _, _, _, _, _, _, _, _, _, _, _, _, _, _, _, _, _, _, _, _, _, _, _, _, _, _, _, _, _, _, _, _, _, _, _, _, _, _, _, _, _, _, _, _, _, _, _, _, _, _, _, _, _, _, _, _, _, _, _, _, _, _, _, _, _, _, _, _, _, _, _, _, _, _, _, _, _, _, _, _, _, _, _, _, _, _, _, _, _, _, _, _, _, _, _, _, _, _, _, _, _, _, _, _, _, _, _, _, _, _, _, _, _, _, _, _, _, _, _, _, _, _, _, _, _, _, _, _, _, _, _, _, _, _, _, _, _, _, _, _, _], []⟩ : Act) v
                refine wpOp_step rfl (fun K' hK' => ?_)
                go_simp
                exact hK' _ _ (hK _ _ (Below.refl _ _) (at_of rfl (rfl)))
              · obtain ⟨x, rfl⟩ := upd_of (show x 2 = .int .i64 cL from hd 2 _ (by simp) rfl)
                obtain ⟨x, rfl⟩ := upd_of (show x 17 = .int .i64 (N / 255) from hd 17 _ (by simp) rfl)
                show wpOp Try.prog _ _ 18 K (⟨#[_, _, _, _, _, _, _, _, _, _, _, _, _, _, _, _, _, _, _, _, _, _, _, _, _, _, _, _, _, _, _, _, _, _, _, _, _, _, _, _, _, _, _, _, _, _, _, _, _, _, _, _, _, _, _, _, _, _, _, _, _, _, _, _, _, _, _, _, _, _, _, _, _, _, _, _, _, _, _, _, _, _, _, _, _, _, _, _, _, x 0, x 1, .int .i64 cL, x 3, x 4, x 5, x 6, x 7, x 8, x 9, x 10, x 11, x 12, x 13, x 14, x 15, x 16, .int .i64 (N / 255), x 18, _, _, _, _, _, _, _, _, _, _, _, _, _, _, _, _, _, _, _, _, _, _, _, _, _, _, _, _, _, _, _, _, _, _, _, _, _, _, _, _, _, _, _, _, _, _, _, _, _, _, _, _, _, _, _, _, _, _, _, _, _, _, _, _, _, _, _, _, _, _, _, _, _, _, _, _, _, _, _, _, _, _, _, _, _, _, _, _, _, _, _, _, _, _, _, _, _, _, _, _, _, _, _, _, _, _, _, _, _, _, _, _, _, _, _, _, _, _, _, _, _, _, _, _, _, _, _, _, _, _, _, _, _, _, _, _, _, _, _, _, _, _], []⟩ : Act) v
                refine wpOp_step rfl (fun K' hK' => ?_)
                go_simp
                exact hK' _ _ (hK _ _ (Below.refl _ _) (at_of rfl (rfl)))
            case fin9_2 =>
              rintro x v gv hd
              obtain ⟨x, rfl⟩ := upd_of (show x 18 = .int .i64 C from hd 18 _ (by omega) rfl)
              clear hd
              show wpList Try.prog _ _ (List.drop 19 _) (⟨#[_, _, _, _, _, _, _, _, _, _, _, _, _, _, _, _, _, _, _, _, _, _, _, _, _, _, _, _, _, _, _, _, _, _, _, _, _, _, _, _, _, _, _, _, _, _, _, _, _, _, _, _, _, _, _, _, _, _, _, _, _, _, _, _, _, _, _, _, _, _, _, _, _, _, _, _, _, _, _, _, _, _, _, _, _, _, _, _, _, x 0, x 1, x 2, x 3, x 4, x 5, x 6, x 7, x 8, x 9, x 10, x 11, x 12, x 13, x 14, x 15, x 16, x 17, .int .i64 C, _, _, _, _, _, _, _, _, _, _, _, _, _, _, _, _, _, _, _, _, _, _, _, _, _, _, _, _, _, _, _, _, _, _, _, _, _, _, _, _, _, _, _, _, _, _, _, _, _, _, _, _, _, _, _, _, _, _, _, _, _, _, _, _, _, _, _, _, _, _, _, _, _, _, _, _, _, _, _, _, _, _, _, _, _, _, _, _, _, _, _, _, _, _, _, _, _, _, _, _, _, _, _, _, _, _, _, _, _, _, _, _, _, _, _, _, _, _, _, _, _, _, _, _, _, _, _, _, _, _, _, _, _, _, _, _, _, _, _, _, _, _], []⟩ : Act) v
              simp only [List.drop_succ_cons, List.drop_zero]
              have hS := hS.keep gv
              clear gv t1 p2 p3 d0 d1 kE kC k9 k8
              go_upto_region 10 with fail
              obtain ⟨N0, hN0⟩ : ∃ N, C * ar = N := ⟨_, rfl⟩
              have n0 : 0 ≤ N0 := by rw [← hN0]; exact Int.mul_nonneg (by omega) (by omega)
              have n1 : N0 ≤ 10000 * 15000 := by rw [← hN0]; exact Int.mul_le_mul (by omega) (by omega) (by omega) (by omega)
              obtain ⟨r0, r1, r2⟩ := rootL_spec n0
              obtain ⟨_, r3⟩ := rootL_small n0 (by omega)
              have hroot : strongB ar 100 1000 C = rootL N0 := by rw [strongB_root, hN0]
              obtain ⟨r, hr⟩ : ∃ r, rootL N0 = r := ⟨_, rfl⟩
              rw [hr] at r0 r1 r2 r3 hroot
              have rr0 : 0 ≤ r * r := Int.mul_nonneg r0 r0
              have rr1 : (r + 1) * (r + 1) = r * r + 2 * r + 1 := by rw [Int.add_mul, Int.mul_add]; omega
              obtain ⟨T, hT⟩ : ∃ T, strongB ar ru E C = T := ⟨_, rfl⟩
              have hT0 : S0 ≤ T := by rw [← HS0.out, ← hT]; exact strongB_mono (by omega) (by omega) (by omega) (by omega) (by omega) (by omega) (Int.le_refl _)
              have hT1 : T ≤ S1 := by rw [← HS1.out, ← hT]; exact strongB_mono (by omega) (by omega) (by omega) (by omega) (by omega) (by omega) (Int.le_refl _)
              have bk1 : boxOk E E C C ar ru = true := by
                simp only [boxOk, okSpan, inB, in1, List.all_cons, List.all_nil, Bool.and_true, Bool.and_eq_true, decide_eq_true_eq]
                omega
              have bk2 : boxOk 1000 1000 C C ar 100 = true := by
                simp only [boxOk, okSpan, inB, in1, List.all_cons, List.all_nil, Bool.and_true, Bool.and_eq_true, decide_eq_true_eq]
                omega
              have cT : ∀ W, Calls Try.prog 29 #[.agg #[.int .i64 E, .int .i64 E, .int .i64 C, .int .i64 C, .int .i64 ar, .int .i64 ru]] W fun e w' => e = .returned (.tuple #[.agg #[.int .i64 T, .int .i64 T], .int .i64 0]) ∧ Gr W w' := fun W => by
                have := crushStrength_ok E E C C ar ru bk1 W
                rw [hT] at this
                exact this
              have cR : ∀ W, Calls Try.prog 29 #[.agg #[.int .i64 1000, .int .i64 1000, .int .i64 C, .int .i64 C, .int .i64 ar, .int .i64 100]] W fun e w' => e = .returned (.tuple #[.agg #[.int .i64 r, .int .i64 r], .int .i64 0]) ∧ Gr W w' := fun W => by
                have := crushStrength_ok 1000 1000 C C ar 100 bk2 W
                rw [hroot] at this
                exact this
              have CT := Lib.hid cT
              have CR := Lib.hid cR
              have HN0 := Lib.hid hN0
              clear cT cR hT hroot hr bk1 bk2 hN0
              obtain ⟨p0, p1, p2, p3, p4, p5⟩ := hS.b5.c6'
              go_upto_region 11 with fail
              clear p0 p1 p2 p3 p4 p5

              obtain ⟨B11, hB11⟩ : ∃ B, B = v.heap.size := ⟨_, rfl⟩
              have o11 := Own.new v [.int .i64 eL, .int .i64 eH, .int .i64 cL, .int .i64 cH, .int .i64 ar, .int .i64 ru] 47 B11 hB11
              rw [← hB11]
              have hle : v.heap.size ≤ B11 := Nat.le_of_eq hB11.symm
              refine wp_abs (fun X => Gr v X ∧ Own X B11 [.int .i64 eL, .int .i64 eH, .int .i64 cL, .int .i64 cH, .int .i64 ar, .int .i64 ru]) ⟨Gr.al _ _, o11⟩ ?_
              clear o11 hB11
              rintro X1 ⟨gX1, o11⟩
              have tk : True := trivial
              go_upto_region 12 with (first
                | (have _t := tk; clear tk _t; go_at_call 31; refine (armSpan_any E E _).mono ?_; rintro e x1 ⟨rfl, g1⟩)
                | (go_at_call 31; refine (armSpan_any C C _).mono ?_; rintro e x2 ⟨rfl, g2⟩; have oX := o11.keep (g1.tr g2); (obtain ⟨p0, p1, p2, p3, p4, p5⟩ := oX.1.c6'); have f0 := oX.2 0; have f1 := oX.2 1; have f2 := oX.2 2; have f3 := oX.2 3))
              have oZ := (((oX.set (i := 0) (v := .int .i64 E) (by simp)).set (i := 1) (v := .int .i64 E) (by simp)).set (i := 2) (v := .int .i64 C) (by simp)).set (i := 3) (v := .int .i64 C) (by simp)
              have gZ := ((((gX1.tr (g1.tr g2)).setCell (p := ⟨B11, 0, none⟩) hle (.int .i64 E)).setCell (p := ⟨B11, 1, none⟩) hle (.int .i64 E)).setCell (p := ⟨B11, 2, none⟩) hle (.int .i64 C)).setCell (p := ⟨B11, 3, none⟩) hle (.int .i64 C)
              refine wp_abs (fun X => Gr v X ∧ Own X B11 [.int .i64 E, .int .i64 E, .int .i64 C, .int .i64 C, .int .i64 ar, .int .i64 ru]) ⟨gZ, oZ⟩ ?_
              clear gZ oZ oX p0 p1 p2 p3 p4 p5 f0 f1 f2 f3 g1 g2 o11 gX1
              rintro X2 ⟨gX2, o11⟩
              obtain ⟨p0, p1, p2, p3, p4, p5⟩ := o11.1.c6'
              go_upto_region 13 with (go_at_call 29; refine (CT.out _).mono ?_; rintro e x3 ⟨rfl, g3⟩)
              obtain ⟨B12, hB12⟩ : ∃ B, B = x3.heap.size := ⟨_, rfl⟩
              have b12 := Box.new x3 [.int .i64 T, .int .i64 T] 45 B12 hB12
              have g4 := g3.tr (Gr.al x3 (.cells #[.int .i64 T, .int .i64 T] 45))
              rw [← hB12]
              refine wp_abs (fun X => Gr v X ∧ Own X B11 [.int .i64 E, .int .i64 E, .int .i64 C, .int .i64 C, .int .i64 ar, .int .i64 ru] ∧ Box X B12 [.int .i64 T, .int .i64 T]) ⟨gX2.tr g4, o11.keep g4, b12⟩ ?_
              clear g4 g3 b12 hB12 p0 p1 p2 p3 p4 p5 o11 gX2
              rintro X3 ⟨gX3, o11, b12⟩
              have hS3 := hS.keep gX3
              obtain ⟨s0, s1⟩ := hS3.b6.c2
              obtain ⟨u0, u1⟩ := b12.c2
              have y7 : decide (T < S0) = false := by simp; omega
              have y8 : decide (S1 < T) = false := by simp; omega
              have y9 : (T != T) = false := by simp
              go_upto_region 16 with (go_at_call 31; refine (armSpan_any 1000 1000 _).mono ?_; rintro e x1 ⟨rfl, g1⟩; have oX := o11.keep g1; (obtain ⟨p0, p1, p2, p3, p4, p5⟩ := oX.1.c6'); have f0 := oX.2 0; have f1 := oX.2 1; have f5 := oX.2 5)
              have oZ := ((oX.set (i := 0) (v := .int .i64 1000) (by simp)).set (i := 1) (v := .int .i64 1000) (by simp)).set (i := 5) (v := .int .i64 100) (by simp)
              have gZ := (((gX3.tr g1).setCell (p := ⟨B11, 0, none⟩) hle (.int .i64 1000)).setCell (p := ⟨B11, 1, none⟩) hle (.int .i64 1000)).setCell (p := ⟨B11, 5, none⟩) hle (.int .i64 100)
              refine wp_abs (fun X => Gr v X ∧ Own X B11 [.int .i64 1000, .int .i64 1000, .int .i64 C, .int .i64 C, .int .i64 ar, .int .i64 100]) ⟨gZ, oZ⟩ ?_
              clear gZ oZ oX p0 p1 p2 p3 p4 p5 f0 f1 f5 g1 o11 gX3 b12 u0 u1 s0 s1 hS3 y7 y8 y9
              rintro X4 ⟨gX4, o11⟩
              obtain ⟨p0, p1, p2, p3, p4, p5⟩ := o11.1.c6'
              go_upto_region 17 with (go_at_call 29; refine (CR.out _).mono ?_; rintro e x3 ⟨rfl, g3⟩)
              obtain ⟨B14, hB14⟩ : ∃ B, B = x3.heap.size := ⟨_, rfl⟩
              have b14 := Box.new x3 [.int .i64 r, .int .i64 r] 45 B14 hB14
              have g4 := gX4.tr (g3.tr (Gr.al x3 (.cells #[.int .i64 r, .int .i64 r] 45)))
              rw [← hB14]
              refine wp_abs (fun X => Gr v X ∧ Box X B14 [.int .i64 r, .int .i64 r]) ⟨g4, b14⟩ ?_
              clear g4 g3 b14 hB14 p0 p1 p2 p3 p4 p5 o11 gX4
              rintro X5 ⟨gX5, b14⟩
              have hS5 := hS.keep gX5
              obtain ⟨u0, u1⟩ := b14.c2
              obtain ⟨p0, p1, p2, p3, p4, p5⟩ := hS5.b5.c6'
              have x0 : decide (r < 0) = false := by simp; omega
              have x1 : decide (100000 < r) = false := by simp; omega
              obtain ⟨s1, hs1⟩ : ∃ s1, r * r = s1 := ⟨_, rfl⟩
              obtain ⟨s2, hs2⟩ : ∃ s2, r + 1 = s2 := ⟨_, rfl⟩
              obtain ⟨s3, hs3⟩ : ∃ s3, s2 * s2 = s3 := ⟨_, rfl⟩
              rw [hs1] at r1 rr0 rr1
              rw [hs2, hs3] at r2 rr1
              have x2 : IntKind.i64.wrap (r * r) = s1 := by rw [hs1]; exact IntWalk.i64_in _ (by omega)
              have x3 : IntKind.i64.wrap (C * ar) = N0 := by rw [HN0.out]; exact IntWalk.i64_in _ (by omega)
              have x4 : decide (N0 < s1) = false := by simp; omega
              have x5 : IntKind.i64.wrap (r + 1) = s2 := by rw [hs2]; exact IntWalk.i64_in _ (by omega)
              have x6 : IntKind.i64.wrap (s2 * s2) = s3 := by rw [hs3]; exact IntWalk.i64_in _ (by omega)
              have x7 : decide (s3 ≤ N0) = false := by simp; omega
              clear rr0 rr1 r1 r2 hs1 hs2 hs3 n0 n1 r3
              go_wp2
              go_roundw
              case rel => exact Lib.hid ⟨2 + 1, by omega, (by first | rfl | go_num), hS5⟩
              case measure => simp [intOf]
      · obtain rfl : k = 3 := by omega
        obtain ⟨p0, p1, p2, p3, p4, p5⟩ := hS.b5.c6'
        go_upto_region 21 with fail
        clear p0 p1 p2 p3 p4 p5
        obtain ⟨B17, hB17⟩ : ∃ B, B = wr.heap.size := ⟨_, rfl⟩
        have o17 := Own.new wr [.int .i64 eL, .int .i64 eH, .int .i64 cL, .int .i64 cH, .int .i64 ar, .int .i64 ru] 47 B17 hB17
        rw [← hB17]
        have hle : wr.heap.size ≤ B17 := Nat.le_of_eq hB17.symm
        refine wp_abs (fun X => Gr wr X ∧ Own X B17 [.int .i64 eL, .int .i64 eH, .int .i64 cL, .int .i64 cH, .int .i64 ar, .int .i64 ru]) ⟨Gr.al _ _, o17⟩ ?_
        clear o17 hB17
        rintro X1 ⟨gX1, o17⟩
        have hS1 := hS.keep gX1
        obtain ⟨p0, p1, p2, p3, p4, p5⟩ := hS1.b5.c6'
        obtain ⟨t0, t1⟩ := hS1.b3.c2
        obtain ⟨r0, r1, r2, r3, r4, r5⟩ := o17.1.c6'
        have f1 := o17.2 1
        have f4 := o17.2 4
        have hb5 := hS.b5.1
        have hb3 := hS.b3.1
        have n1 : ¬ B17 = B5 := by omega
        have n2 : ¬ B5 = B17 := by omega
        have n3 : ¬ B17 = w.heap.size + 1 := by omega
        have n4 : ¬ w.heap.size + 1 = B17 := by omega
        have k9 : IntKind.i64.wrap y0 = y0 := IntWalk.i64_in _ (by omega)
        have k8 : IntKind.i64.wrap y1 = y1 := IntWalk.i64_in _ (by omega)
        have x0 : IntKind.i64.wrap (ar + y0) = ar + y0 := IntWalk.i64_in _ (by omega)
        have x1 : IntKind.i64.wrap (eH + y1) = eH + y1 := IntWalk.i64_in _ (by omega)
        have gd := Gr.dr X1
        have p1 := gd.keep p1
        have p4 := gd.keep p4
        have t0 := gd.keep t0
        have t1 := gd.keep t1
        go_region_held3 (fun w' => w'.cell? ⟨B5, 4, none⟩ = some (.int .i64 ar) ∧ w'.cell? ⟨B5, 1, none⟩ = some (.int .i64 eH) ∧ w'.cell? ⟨w.heap.size + 1, 0, none⟩ = some (.int .u8 y0) ∧ w'.cell? ⟨w.heap.size + 1, 1, none⟩ = some (.int .u8 y1)) (first | exact ⟨p4, p1, t0, t1⟩ | go_keep) (fail)
        all_goals
          have oZ := ((o17.keep gd).set (i := 4) (v := .int .i64 (ar + y0)) (by simp)).set (i := 1) (v := .int .i64 (eH + y1)) (by simp)
          have gZ := ((gX1.tr gd).setCell (p := ⟨B17, 4, none⟩) hle (.int .i64 (ar + y0))).setCell (p := ⟨B17, 1, none⟩) hle (.int .i64 (eH + y1))
          go_upto_region 22 with fail
          refine wp_abs (fun X => Gr wr X ∧ Own X B17 [.int .i64 eL, .int .i64 (eH + y1), .int .i64 cL, .int .i64 cH, .int .i64 (ar + y0), .int .i64 ru]) ⟨gZ, oZ⟩ ?_
          clear oZ gZ p0 p1 p2 p3 p4 p5 t0 t1 r0 r1 r2 r3 r4 r5 f1 f4 x0 x1 k9 k8 hS1 gX1 o17 gd
          rintro X2 ⟨gX2, o17⟩
          have bk : boxOk eL (eH + y1) cL cH (ar + y0) ru = true := by
            simp only [boxOk, okSpan, inB, in1, List.all_cons, List.all_nil, Bool.and_true, Bool.and_eq_true, decide_eq_true_eq]
            omega
          obtain ⟨M0, hM0⟩ : ∃ M, strongB (ar + y0) ru eL cL = M := ⟨_, rfl⟩
          obtain ⟨M1, hM1⟩ : ∃ M, strongB (ar + y0) ru (eH + y1) cH = M := ⟨_, rfl⟩
          have l0 : S0 ≤ M0 := by rw [← HS0.out, ← hM0]; exact strongB_mono (by omega) (by omega) (by omega) (by omega) (by omega) (by omega) (by omega)
          have l1 : S1 ≤ M1 := by rw [← HS1.out, ← hM1]; exact strongB_mono (by omega) (by omega) (by omega) (by omega) (by omega) (by omega) (by omega)
          have cM : ∀ W, Calls Try.prog 29 #[.agg #[.int .i64 eL, .int .i64 (eH + y1), .int .i64 cL, .int .i64 cH, .int .i64 (ar + y0), .int .i64 ru]] W fun e w' => e = .returned (.tuple #[.agg #[.int .i64 M0, .int .i64 M1], .int .i64 0]) ∧ Gr W w' := fun W => by
            have := crushStrength_ok eL (eH + y1) cL cH (ar + y0) ru bk W
            rw [hM0, hM1] at this
            exact this
          have CM := Lib.hid cM
          clear cM hM0 hM1 bk
          obtain ⟨p0, p1, p2, p3, p4, p5⟩ := o17.1.c6'
          go_upto_region 23 with (go_at_call 29; refine (CM.out _).mono ?_; rintro e x3 ⟨rfl, g3⟩)
          obtain ⟨B18, hB18⟩ : ∃ B, B = x3.heap.size := ⟨_, rfl⟩
          have b18 := Box.new x3 [.int .i64 M0, .int .i64 M1] 45 B18 hB18
          have g4 := gX2.tr (g3.tr (Gr.al x3 (.cells #[.int .i64 M0, .int .i64 M1] 45)))
          rw [← hB18]
          refine wp_abs (fun X => Gr wr X ∧ Box X B18 [.int .i64 M0, .int .i64 M1]) ⟨g4, b18⟩ ?_
          clear g4 g3 b18 hB18 p0 p1 p2 p3 p4 p5 o17 gX2
          rintro X5 ⟨gX5, b18⟩
          have hS5 := hS.keep gX5
          obtain ⟨u0, u1⟩ := b18.c2
          obtain ⟨s0, s1⟩ := hS5.b6.c2
          have d0 : decide (S0 ≤ M0) = true := by simpa using l0
          have d1 : decide (S1 ≤ M1) = true := by simpa using l1
          have G5 := Lib.hid hS5.gr
          clear hS5 gX5 l0 l1 hS
          go_wp2_with (go_at_call 16; refine (known_any _).mono ?_; rintro e x9 ⟨rfl, g9⟩)
          go_ret
          exact ⟨rfl, G5.out.tr g9⟩

end Go.Proofs.Ytiackomjfpgcbaa
