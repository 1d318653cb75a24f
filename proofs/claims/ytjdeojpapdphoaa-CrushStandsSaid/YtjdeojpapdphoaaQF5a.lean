/- CrushStands' own body. (Made by gen_f3.py.) A law's end: it returned true and the world only grew. And: what an argument is that is made of integers of one kind. Contracts of pubMade, pubSingle, pubDouble. Contract of pubOwn: a copy of a store. Contract of pubStore. The contract of armStore. (Made by gen_arm1.py.) What an argument is that is a slice of small arrays of bytes; a struct of three slices. A lot that comes in. A pile that comes in. -/
import Derived.Test.YtjdeojpapdphoaaQF2a
import Derived.Test.YtjdeojpapdphoaaQI33c
import Derived.Test.YtjdeojpapdphoaaQI33a
import Derived.Lib.MinMax
import Derived.Deep.CutRange
import Derived.Deep.MidRow
import Derived.Deep.AppendLies
import Derived.ProofKit
import Derived.OpenShut
import Derived.ChangeSame
import Derived.Carry
import Derived.Deep.RegionHeld3
import Derived.Deep.QuietTactic
import Derived.BigQuiet
import Derived.Deep.DeepCutAuto
namespace Go.Proofs.Ytjdeojpapdphoaa
set_option linter.unusedVariables false
set_option linter.unusedSimpArgs false
open Go.RowKit

set_option maxRecDepth 100000 in
set_option maxHeartbeats 8000000 in
theorem crushStands_any (X : List V4) (S : List V2) (Y : List Int) (days : Int) (hX : ∀ v ∈ X, B4 v) (hS : ∀ v ∈ S, B2 v) (hY : Bytes Y) (d0 : 0 ≤ days) (d1 : days ≤ 255) (xa sa ya : Option Addr) (xc sc yc : Nat) (w : World) (rx : Row4 w xa X) (rs : Row2 w sa S) (ry : URow w ya Y) :
    Calls Try.prog 13 #[.agg #[.slice xa X.length xc, .slice sa S.length sc], .slice ya Y.length yc, .int .u8 days] w fun e w' => e = .returned (.bool true) ∧ Gr w w' := by
  have gg := Gr.al w (.cells #[.slice xa X.length xc, .slice sa S.length sc] 105)
  have hx := Box.new w [.slice xa X.length xc, .slice sa S.length sc] 105 w.heap.size rfl
  obtain ⟨l, n, l12, n6, hl, hst, hpl⟩ := pile_law X S 12 hX hS (by omega) xa sa xc sc
  obtain ⟨i0, hi, hz0, hz1, hz2⟩ := info_parts infoInt
  obtain ⟨t, ht⟩ : ∃ t, tabW S n = t := ⟨_, rfl⟩
  have t7 : t.length ≤ 7 := by rw [← ht, tabW_len]; omega
  rw [ht] at hpl
  have HPL := Lib.hid hpl
  have HL := Lib.hid hl
  have HST := Lib.hid hst
  have HS := Lib.hid hS
  have HY := Lib.hid hY
  have HT := Lib.hid ht
  clear hX hS hY hpl hl hst ht
  go_enter Try.func13, Try.ntmps13
  go_upto_region 1 with fail
  refine wp_abs (fun U => Gr w U ∧ Box U w.heap.size [.slice xa X.length xc, .slice sa S.length sc]) ⟨gg, hx⟩ ?_
  clear gg hx
  rintro U ⟨gg, hx⟩
  obtain ⟨q0, q1⟩ := hx.c2
  go_upto_region 2 with (go_at_call 52; refine (HPL.out _ (rx.grow gg) (rs.grow gg)).mono ?_; rintro e w1 ⟨B, c, D, f, rfl, rL, rT, hc, hf, g1⟩)
  refine wp_abs (fun U2 => Gr w U2 ∧ LRow U2 (some ⟨B, 0, none⟩) l ∧ TRow U2 (some ⟨D, 0, none⟩) t) ⟨gg.tr g1, rL, rT⟩ ?_
  clear gg hx q0 q1 rL rT g1
  rintro V ⟨gV, rL, rT⟩
  go_upto_region 3 with fail
  have h4 := four_new V
  have g4 : Gr V ((((V.alloc (.cells #[] 3)).alloc (.cells #[] 3)).alloc (.cells #[] 3)).alloc (.cells #[] 3)) := (Gr.al _ _).tr ((Gr.al _ _).tr ((Gr.al _ _).tr (Gr.al _ _)))
  obtain ⟨B0, hB0⟩ : ∃ B0, V.heap.size = B0 := ⟨_, rfl⟩
  have hB1 : V.heap.size ≤ B0 ∧ B0 ≤ V.heap.size := by omega
  rw [hB0] at h4 ⊢
  clear hB0
  refine wp_abs (fun U => Gr V U ∧ Four U B0 (.slice (some ⟨B0, 0, none⟩) 0 0) (.slice (some ⟨B0 + 1, 0, none⟩) 0 0) (.slice (some ⟨B0 + 1 + 1, 0, none⟩) 0 0) (.slice (some ⟨B0 + 1 + 1 + 1, 0, none⟩) 0 0) [] [] [] []) ⟨g4, h4⟩ ?_
  clear g4 h4
  have gV0 := gV
  rintro W ⟨g4, h4⟩
  refine (show (∀ s : Nat → Value, Code.wp Try.prog _ _ ⟨#[s 0, .slice ya Y.length yc, .int .u8 days, .pointer (some ⟨w.heap.size, 0, none⟩), s 4, s 5, .bool false, .slice (some ⟨B, 0, none⟩) l.length c, .slice (some ⟨D, 0, none⟩) t.length f, .slice (some ⟨B0, 0, none⟩) 0 0, .slice (some ⟨B0 + 1, 0, none⟩) 0 0, .slice (some ⟨B0 + 1 + 1, 0, none⟩) 0 0, .slice (some ⟨B0 + 1 + 1 + 1, 0, none⟩) 0 0, undef, undef, undef, undef, undef, undef, undef, undef, undef, undef, undef, undef, undef, undef, undef, undef, undef, undef, undef, undef, undef, s 34, s 35, s 36, s 37, s 38, s 39, s 40, s 41, s 42, undef, undef, undef, undef, undef, undef, undef, undef, undef, undef, undef, undef, undef, undef, undef, undef, undef, undef, undef, undef, undef, undef, undef, undef, undef, undef, undef, undef, undef, undef, undef, undef, undef, undef, undef, undef, undef, undef, undef, undef, undef, undef, undef, undef, undef, undef, undef, undef, undef, undef, undef, undef, undef, undef, undef, undef, undef, undef, undef, undef, undef, undef, undef, undef, undef, undef, undef, undef, undef, undef, undef, undef, undef, undef, undef, undef, undef, undef, undef, undef, undef, undef, undef, undef, undef, undef, undef, undef, undef, undef, undef, undef, undef, undef, undef, undef, undef, undef, undef, undef, undef, undef, undef, undef, undef, undef, undef, undef, undef, undef, undef, undef, undef, undef, undef, undef, undef, undef, undef, undef, undef, undef, undef, undef, undef, undef, undef, undef, undef, undef, undef, undef, undef, undef, undef, undef, undef, undef, undef, undef, undef, undef, undef, undef, undef, undef, undef, undef, undef, undef, undef, undef, undef, undef, undef, undef, undef, undef, undef, undef, undef, undef, undef, undef, undef, undef, undef, undef, undef, undef, undef, undef, undef, undef, undef, undef, undef, undef, undef, undef, undef, undef, undef, undef, undef, undef, undef, undef, undef, undef, undef, undef, undef, undef, undef, undef, undef, undef, undef, undef, undef, undef, undef, undef, undef, undef, undef, undef, undef, undef, undef, undef, undef, undef, undef, undef, undef, undef, undef, undef, undef, undef, undef, undef, undef, undef, undef, undef, undef], []⟩ _) → _ from fun h => h ((fun l : List Value => fun i => l.getD i undef) [_, undef, undef, undef, _, _, undef, undef, undef, undef, undef, undef, undef, undef, undef, undef, undef, undef, undef, undef, undef, undef, undef, undef, undef, undef, undef, undef, undef, undef, undef, undef, undef, undef, _, _, _, _, _, _, _, _, _])) ?_
  intro s
  dsimp only
  go_wp2
  go_loopw [13, 9, 10, 11, 12] (fun i r1 r2 r3 r4 wr => Hid (∃ k : Nat, k ≤ l.length ∧ i = .int .i64 k ∧ Gr V wr ∧ Four wr B0 r1 r2 r3 r4 (strT l Y k) (hvyT l Y k) (weakT l k) (mostT l k))) (fun i _ _ _ _ _ => l.length - (intOf i).toNat)
  case atStart => exact Lib.hid ⟨0, Nat.zero_le _, rfl, g4, h4⟩
  case round =>
    clear g4 h4
    obtain ⟨k, hk, rfl, gW, h4⟩ := hrel.out
    clear hrel
    by_cases hlt : k < l.length
    · obtain ⟨x, hx⟩ : ∃ x, l[k]? = some x := ⟨l[k], by simp [hlt]⟩
      obtain ⟨⟨_, p0, _⟩, p1, p2, p3, p4⟩ := HL.out x (List.mem_of_getElem? hx)
      have p5 : 0 ≤ x.wl := by have := (HL.out x (List.mem_of_getElem? hx)).1.1.1; exact this
      obtain ⟨b, off, ee, _, c0, c1, c2, c3⟩ := LRow.get (rL.grow gW) hx
      injection ee with ee
      injection ee with e1 e2 _
      subst e1
      subst e2
      have HS1 := Lib.hid (strT_succ l Y k)
      have HS2 := Lib.hid (hvyT_succ l Y k)
      have HS3 := Lib.hid (weakT_succ hx)
      have HS4 := Lib.hid (mostT_succ hx)
      have hsv : strAt l Y k = x.sl + byteW Y (2 * k) * (x.sh - x.sl) / 255 := by unfold strAt; rw [hx]
      have hhv : hvyAt l Y k = x.wl + byteW Y (2 * k + 1) * (x.wh - x.wl) / 255 := by unfold hvyAt; rw [hx]
      obtain ⟨y00, y01⟩ := byteW_bd HY.out (2 * k)
      obtain ⟨y10, y11⟩ := byteW_bd HY.out (2 * k + 1)
      obtain ⟨sl, sh, wl, wh⟩ := x
      dsimp only at p0 p1 p2 p3 p4 p5 c0 c1 c2 c3 hsv hhv HS3 HS4
      rw [Nat.zero_add] at c0 c1 c2 c3
      clear hx
      obtain ⟨y0, hy0⟩ : ∃ y, byteW Y (2 * k) = y := ⟨_, rfl⟩
      obtain ⟨y1, hy1⟩ : ∃ y, byteW Y (2 * k + 1) = y := ⟨_, rfl⟩
      rw [hy0] at hsv y00 y01
      rw [hy1] at hhv y10 y11
      have f0 := frac_bd p1 y00 y01
      have f1 := frac_bd p2 y10 y11
      obtain ⟨dS, hdS⟩ : ∃ y, sh - sl = y := ⟨_, rfl⟩
      obtain ⟨dW, hdW⟩ : ∃ y, wh - wl = y := ⟨_, rfl⟩
      rw [hdS] at hsv f0
      rw [hdW] at hhv f1
      have m00 : 0 ≤ y0 * dS ∧ y0 * dS ≤ 255 * 1069 := ⟨Int.mul_nonneg y00 (by omega), Int.mul_le_mul y01 (by omega) (by omega) (by omega)⟩
      have m10 : 0 ≤ y1 * dW ∧ y1 * dW ≤ 255 * 284 := ⟨Int.mul_nonneg y10 (by omega), Int.mul_le_mul y11 (by omega) (by omega) (by omega)⟩
      obtain ⟨m0, hm0⟩ : ∃ y, y0 * dS = y := ⟨_, rfl⟩
      obtain ⟨m1, hm1⟩ : ∃ y, y1 * dW = y := ⟨_, rfl⟩
      rw [hm0] at hsv f0 m00
      rw [hm1] at hhv f1 m10
      obtain ⟨v0, hv0⟩ : ∃ y, m0 / 255 = y := ⟨_, rfl⟩
      obtain ⟨v1, hv1⟩ : ∃ y, m1 / 255 = y := ⟨_, rfl⟩
      rw [hv0] at hsv f0
      rw [hv1] at hhv f1
      obtain ⟨sv, hsv2⟩ : ∃ y, strAt l Y k = y := ⟨_, rfl⟩
      obtain ⟨hv, hhv2⟩ : ∃ y, hvyAt l Y k = y := ⟨_, rfl⟩
      rw [hsv2] at hsv HS1
      rw [hhv2] at hhv HS2
      obtain ⟨K2, hK2⟩ : ∃ K2, 2 * k = K2 := ⟨_, rfl⟩
      obtain ⟨K3, hK3⟩ : ∃ K3, 2 * k + 1 = K3 := ⟨_, rfl⟩
      rw [hK2] at hy0
      rw [hK3] at hy1
      have HB1 : Hid (∀ W', Gr V W' → Calls Try.prog 53 #[.slice ya Y.length yc, .int .i64 (K2 : Int)] W' fun e w' => e = .returned (.int .i64 y0) ∧ Gr W' w') := Lib.hid (fun W' g => by
        have := lbyteOf_any Y HY.out K2 (by omega) ya yc W' (ry.grow (gV.tr g))
        rw [hy0] at this
        exact this)
      have HB2 : Hid (∀ W', Gr V W' → Calls Try.prog 53 #[.slice ya Y.length yc, .int .i64 (K3 : Int)] W' fun e w' => e = .returned (.int .i64 y1) ∧ Gr W' w') := Lib.hid (fun W' g => by
        have := lbyteOf_any Y HY.out K3 (by omega) ya yc W' (ry.grow (gV.tr g))
        rw [hy1] at this
        exact this)
      have z0 : IntKind.i64.wrap (2 * (k : Int)) = (K2 : Int) := by rw [show 2 * (k : Int) = (K2 : Int) by omega]; exact IntWalk.i64_in _ (by omega)
      have z1 : IntKind.i64.wrap ((K2 : Int) + 1) = (K3 : Int) := by rw [show (K2 : Int) + 1 = (K3 : Int) by omega]; exact IntWalk.i64_in _ (by omega)
      have z2 : IntKind.i64.wrap (sh - sl) = dS := by rw [hdS]; exact IntWalk.i64_in _ (by omega)
      have z3 : IntKind.i64.wrap (wh - wl) = dW := by rw [hdW]; exact IntWalk.i64_in _ (by omega)
      have z4 : IntKind.i64.wrap (y0 * dS) = m0 := by rw [hm0]; exact IntWalk.i64_in _ (by omega)
      have z5 : IntKind.i64.wrap (y1 * dW) = m1 := by rw [hm1]; exact IntWalk.i64_in _ (by omega)
      have z6 : m0.tdiv 255 = v0 := by rw [Int.tdiv_eq_ediv_of_nonneg m00.1]; exact hv0
      have z7 : m1.tdiv 255 = v1 := by rw [Int.tdiv_eq_ediv_of_nonneg m10.1]; exact hv1
      have z8 : IntKind.i64.wrap v0 = v0 := IntWalk.i64_in _ (by omega)
      have z9 : IntKind.i64.wrap v1 = v1 := IntWalk.i64_in _ (by omega)
      have z10 : IntKind.i64.wrap (sl + v0) = sv := by rw [← hsv]; exact IntWalk.i64_in _ (by omega)
      have z11 : IntKind.i64.wrap (wl + v1) = hv := by rw [← hhv]; exact IntWalk.i64_in _ (by omega)
      clear hsv hhv hsv2 hhv2 hdS hdW hm0 hm1 hv0 hv1 hK2 hK3 f0 f1 y00 y01 y10 y11 hy0 hy1 m00 m10
      go_upto_region 6 with fail
      refine (show (∀ y : Nat → Value, Code.wp Try.prog _ _ ⟨#[s 0, .slice ya Y.length yc, .int .u8 days, .pointer (some ⟨w.heap.size, 0, none⟩), s 4, s 5, .bool false, .slice (some ⟨B, 0, none⟩) l.length c, .slice (some ⟨D, 0, none⟩) t.length f, u9, u10, u11, u12, .int .i64 (k : Int), y 14, y 15, undef, undef, undef, undef, undef, undef, undef, undef, undef, undef, undef, undef, undef, undef, undef, undef, undef, undef, s 34, s 35, s 36, s 37, s 38, s 39, s 40, s 41, s 42, y 43, y 44, y 45, y 46, y 47, y 48, y 49, y 50, y 51, y 52, y 53, y 54, y 55, y 56, y 57, y 58, y 59, y 60, y 61, y 62, y 63, y 64, y 65, y 66, y 67, y 68, y 69, y 70, y 71, y 72, y 73, y 74, y 75, y 76, y 77, y 78, y 79, y 80, y 81, y 82, y 83, y 84, y 85, y 86, y 87, y 88, y 89, y 90, y 91, y 92, y 93, y 94, y 95, y 96, y 97, y 98, y 99, y 100, y 101, y 102, y 103, undef, undef, undef, undef, undef, undef, undef, undef, undef, undef, undef, undef, undef, undef, undef, undef, undef, undef, undef, undef, undef, undef, undef, undef, undef, undef, undef, undef, undef, undef, undef, undef, undef, undef, undef, undef, undef, undef, undef, undef, undef, undef, undef, undef, undef, undef, undef, undef, undef, undef, undef, undef, undef, undef, undef, undef, undef, undef, undef, undef, undef, undef, undef, undef, undef, undef, undef, undef, undef, undef, undef, undef, undef, undef, undef, undef, undef, undef, undef, undef, undef, undef, undef, undef, undef, undef, undef, undef, undef, undef, undef, undef, undef, undef, undef, undef, undef, undef, undef, undef, undef, undef, undef, undef, undef, undef, undef, undef, undef, undef, undef, undef, undef, undef, undef, undef, undef, undef, undef, undef, undef, undef, undef, undef, undef, undef, undef, undef, undef, undef, undef, undef, undef, undef, undef, undef, undef, undef, undef, undef, undef, undef, undef, undef, undef, undef, undef, undef, undef, undef, undef, undef, undef, undef, undef, undef, undef, undef, undef, undef, undef, undef, undef, undef, undef, undef, undef, undef], []⟩ _) → _ from fun h => h ((fun l : List Value => fun i => l.getD i undef) [undef, undef, undef, undef, undef, undef, undef, undef, undef, undef, undef, undef, undef, undef, _, _, undef, undef, undef, undef, undef, undef, undef, undef, undef, undef, undef, undef, undef, undef, undef, undef, undef, undef, undef, undef, undef, undef, undef, undef, undef, undef, undef, _, _, _, _, _, _, _, _, _, _, _, _, _, _, _, _, _, _, _, _, _, _, _, _, _, _, _, _, _, _, _, _, _, _, _, _, _, _, _, _, _, _, _, _, _, _, _, _, _, _, _, _, _, _, _, _, _, _, _, _, _])) ?_
      intro y
      dsimp only
      refine wp_region_fresh2 13 10 12 11 13 [.int .i64 0, .int .i64 0] [.int .i64 sl, .int .i64 sh] [.int .i64 0, .int .i64 0] [.int .i64 wl, .int .i64 wh] 45 45 [(2, 0), (2, 1), (3, 2), (4, 3), (7, 5), (7, 6), (8, 7), (9, 8), (12, 4), (12, 10)] (fun x => ⟨#[s 0, .slice ya Y.length yc, .int .u8 days, .pointer (some ⟨w.heap.size, 0, none⟩), s 4, s 5, .bool false, .slice (some ⟨B, 0, none⟩) l.length c, .slice (some ⟨D, 0, none⟩) t.length f, u9, u10, u11, u12, .int .i64 (k : Int), x 10, x 11, undef, undef, undef, undef, undef, undef, undef, undef, undef, undef, undef, undef, undef, undef, undef, undef, undef, undef, s 34, s 35, s 36, s 37, s 38, s 39, s 40, s 41, s 42, y 43, y 44, y 45, y 46, y 47, y 48, x 0, x 1, x 2, x 3, x 4, x 5, x 6, x 7, x 8, x 9, y 59, y 60, y 61, y 62, y 63, y 64, y 65, y 66, y 67, y 68, y 69, y 70, y 71, y 72, y 73, y 74, y 75, y 76, y 77, y 78, y 79, y 80, y 81, y 82, y 83, y 84, y 85, y 86, y 87, y 88, y 89, y 90, y 91, y 92, y 93, y 94, y 95, y 96, y 97, y 98, y 99, y 100, y 101, y 102, y 103, undef, undef, undef, undef, undef, undef, undef, undef, undef, undef, undef, undef, undef, undef, undef, undef, undef, undef, undef, undef, undef, undef, undef, undef, undef, undef, undef, undef, undef, undef, undef, undef, undef, undef, undef, undef, undef, undef, undef, undef, undef, undef, undef, undef, undef, undef, undef, undef, undef, undef, undef, undef, undef, undef, undef, undef, undef, undef, undef, undef, undef, undef, undef, undef, undef, undef, undef, undef, undef, undef, undef, undef, undef, undef, undef, undef, undef, undef, undef, undef, undef, undef, undef, undef, undef, undef, undef, undef, undef, undef, undef, undef, undef, undef, undef, undef, undef, undef, undef, undef, undef, undef, undef, undef, undef, undef, undef, undef, undef, undef, undef, undef, undef, undef, undef, undef, undef, undef, undef, undef, undef, undef, undef, undef, undef, undef, undef, undef, undef, undef, undef, undef, undef, undef, undef, undef, undef, undef, undef, undef, undef, undef, undef, undef, undef, undef, undef, undef, undef, undef, undef, undef, undef, undef, undef, undef, undef, undef, undef, undef, undef, undef, undef, undef, undef, undef, undef, undef], []⟩) (fun i => [y 49, y 50, y 51, y 52, y 53, y 54, y 55, y 56, y 57, y 58, y 14, y 15].getD i undef) [fun _ x => x = .slice (some ⟨B, 0, none⟩) l.length c, fun _ x => x = .int .i64 (k : Int), fun _ x => x = .pointer (some ⟨B, k * 4, none⟩), fun _ x => x = .pointer (some ⟨B, k * 4, none⟩), fun _ x => x = .agg #[.int .i64 sl, .int .i64 sh], fun _ x => x = .slice (some ⟨B, 0, none⟩) l.length c, fun _ x => x = .int .i64 (k : Int), fun _ x => x = .pointer (some ⟨B, k * 4, none⟩), fun _ x => x = .pointer (some ⟨B, k * 4 + 2, none⟩), fun _ x => x = .agg #[.int .i64 wl, .int .i64 wh], fun _ _ => True, fun _ _ => True, fun _ _ => True] (by rfl) (by kernel_rfl) (by kernel_rfl) (by kernel_rfl) (by simp) (fun h => absurd h (by omega)) (by decide) (by omega) (staysZ_cons (StaysZ.eq _ _) (staysZ_cons (StaysZ.eq _ _) (staysZ_cons (StaysZ.eq _ _) (staysZ_cons (StaysZ.eq _ _) (staysZ_cons (StaysZ.eq _ _) (staysZ_cons (StaysZ.eq _ _) (staysZ_cons (StaysZ.eq _ _) (staysZ_cons (StaysZ.eq _ _) (staysZ_cons (StaysZ.eq _ _) (staysZ_cons (StaysZ.eq _ _) (staysZ_cons (fun _ _ _ _ _ => trivial) (staysZ_cons (fun _ _ _ _ _ => trivial) (staysZ_cons (fun _ _ _ _ _ => trivial) staysZ_nil))))))))))))) ?step6 ?pa6 ?pb6 ?qa6 ?qb6 ?fin6
      case step6 =>
        rintro i hi n1 n2 n3 n4 x v gv hd K hK
        have hi8 : i = 0 ∨ i = 1 ∨ i = 2 ∨ i = 3 ∨ i = 4 ∨ i = 5 ∨ i = 6 ∨ i = 7 ∨ i = 8 ∨ i = 9 := by omega
        rcases hi8 with rfl | rfl | rfl | rfl | rfl | rfl | rfl | rfl | rfl | rfl
        · show wpOp Try.prog _ _ 0 K (⟨#[_, _, _, _, _, _, _, _, _, _, _, _, _, _, x 10, x 11, _, _, _, _, _, _, _, _, _, _, _, _, _, _, _, _, _, _, _, _, _, _, _, _, _, _, _, _, _, _, _, _, _, x 0, x 1, x 2, x 3, x 4, x 5, x 6, x 7, x 8, x 9, _, _, _, _, _, _, _, _, _, _, _, _, _, _, _, _, _, _, _, _, _, _, _, _, _, _, _, _, _, _, _, _, _, _, _, _, _, _, _, _, _, _, _, _, _, _, _, _, _, _, _, _, _, _, _, _, _, _, _, _, _, _, _, _, _, _, _, _, _, _, _, _, _, _, _, _, _, _, _, _, _, _, _, _, _, _, _, _, _, _, _, _, _, _, _, _, _, _, _, _, _, _, _, _, _, _, _, _, _, _, _, _, _, _, _, _, _, _, _, _, _, _, _, _, _, _, _, _, _, _, _, _, _, _, _, _, _, _, _, _, _, _, _, _, _, _, _, _, _, _, _, _, _, _, _, _, _, _, _, _, _, _, _, _, _, _, _, _, _, _, _, _, _, _, _, _, _, _, _, _, _, _, _, _, _, _, _, _, _, _, _, _, _, _, _, _, _, _, _, _, _, _, _, _, _, _, _, _, _, _, _, _, _], []⟩ : Act) v
          refine wpOp_step rfl (fun K' hK' => ?_)
          go_simp
          exact hK' _ _ (hK _ _ (Below.refl _ _) (at_of rfl rfl))
        · show wpOp Try.prog _ _ 1 K (⟨#[_, _, _, _, _, _, _, _, _, _, _, _, _, _, x 10, x 11, _, _, _, _, _, _, _, _, _, _, _, _, _, _, _, _, _, _, _, _, _, _, _, _, _, _, _, _, _, _, _, _, _, x 0, x 1, x 2, x 3, x 4, x 5, x 6, x 7, x 8, x 9, _, _, _, _, _, _, _, _, _, _, _, _, _, _, _, _, _, _, _, _, _, _, _, _, _, _, _, _, _, _, _, _, _, _, _, _, _, _, _, _, _, _, _, _, _, _, _, _, _, _, _, _, _, _, _, _, _, _, _, _, _, _, _, _, _, _, _, _, _, _, _, _, _, _, _, _, _, _, _, _, _, _, _, _, _, _, _, _, _, _, _, _, _, _, _, _, _, _, _, _, _, _, _, _, _, _, _, _, _, _, _, _, _, _, _, _, _, _, _, _, _, _, _, _, _, _, _, _, _, _, _, _, _, _, _, _, _, _, _, _, _, _, _, _, _, _, _, _, _, _, _, _, _, _, _, _, _, _, _, _, _, _, _, _, _, _, _, _, _, _, _, _, _, _, _, _, _, _, _, _, _, _, _, _, _, _, _, _, _, _, _, _, _, _, _, _, _, _, _, _, _, _, _, _, _, _, _, _, _, _, _, _, _], []⟩ : Act) v
          refine wpOp_step rfl (fun K' hK' => ?_)
          go_simp
          exact hK' _ _ (hK _ _ (Below.refl _ _) (at_of rfl rfl))
        · obtain ⟨x, rfl⟩ := upd_of (show x 0 = .slice (some ⟨B, 0, none⟩) l.length c from hd 0 _ (by simp) (by decide) rfl)
          obtain ⟨x, rfl⟩ := upd_of (show x 1 = .int .i64 (k : Int) from hd 1 _ (by simp) (by decide) rfl)
          show wpOp Try.prog _ _ 2 K (⟨#[_, _, _, _, _, _, _, _, _, _, _, _, _, _, x 10, x 11, _, _, _, _, _, _, _, _, _, _, _, _, _, _, _, _, _, _, _, _, _, _, _, _, _, _, _, _, _, _, _, _, _, .slice (some ⟨B, 0, none⟩) l.length c, .int .i64 (k : Int), x 2, x 3, x 4, x 5, x 6, x 7, x 8, x 9, _, _, _, _, _, _, _, _, _, _, _, _, _, _, _, _, _, _, _, _, _, _, _, _, _, _, _, _, _, _, _, _, _, _, _, _, _, _, _, _, _, _, _, _, _, _, _, _, _, _, _, _, _, _, _, _, _, _, _, _, _, _, _, _, _, _, _, _, _, _, _, _, _, _, _, _, _, _, _, _, _, _, _, _, _, _, _, _, _, _, _, _, _, _, _, _, _, _, _, _, _, _, _, _, _, _, _, _, _, _, _, _, _, _, _, _, _, _, _, _, _, _, _, _, _, _, _, _, _, _, _, _, _, _, _, _, _, _, _, _, _, _, _, _, _, _, _, _, _, _, _, _, _, _, _, _, _, _, _, _, _, _, _, _, _, _, _, _, _, _, _, _, _, _, _, _, _, _, _, _, _, _, _, _, _, _, _, _, _, _, _, _, _, _, _, _, _, _, _, _, _, _, _, _, _, _, _, _, _, _, _, _, _], []⟩ : Act) v
          refine wpOp_step rfl (fun K' hK' => ?_)
          go_simp
          exact hK' _ _ (hK _ _ (Below.refl _ _) (at_of rfl rfl))
        · obtain ⟨x, rfl⟩ := upd_of (show x 2 = .pointer (some ⟨B, k * 4, none⟩) from hd 2 _ (by simp) (by decide) rfl)
          show wpOp Try.prog _ _ 3 K (⟨#[_, _, _, _, _, _, _, _, _, _, _, _, _, _, x 10, x 11, _, _, _, _, _, _, _, _, _, _, _, _, _, _, _, _, _, _, _, _, _, _, _, _, _, _, _, _, _, _, _, _, _, x 0, x 1, .pointer (some ⟨B, k * 4, none⟩), x 3, x 4, x 5, x 6, x 7, x 8, x 9, _, _, _, _, _, _, _, _, _, _, _, _, _, _, _, _, _, _, _, _, _, _, _, _, _, _, _, _, _, _, _, _, _, _, _, _, _, _, _, _, _, _, _, _, _, _, _, _, _, _, _, _, _, _, _, _, _, _, _, _, _, _, _, _, _, _, _, _, _, _, _, _, _, _, _, _, _, _, _, _, _, _, _, _, _, _, _, _, _, _, _, _, _, _, _, _, _, _, _, _, _, _, _, _, _, _, _, _, _, _, _, _, _, _, _, _, _, _, _, _, _, _, _, _, _, _, _, _, _, _, _, _, _, _, _, _, _, _, _, _, _, _, _, _, _, _, _, _, _, _, _, _, _, _, _, _, _, _, _, _, _, _, _, _, _, _, _, _, _, _, _, _, _, _, _, _, _, _, _, _, _, _, _, _, _, _, _, _, _, _, _, _, _, _, _, _, _, _, _, _, _, _, _, _, _, _, _, _, _, _, _, _, _], []⟩ : Act) v
          refine wpOp_step rfl (fun K' hK' => ?_)
          go_simp
          exact hK' _ _ (hK _ _ (Below.refl _ _) (at_of rfl rfl))
        · obtain ⟨x, rfl⟩ := upd_of (show x 3 = .pointer (some ⟨B, k * 4, none⟩) from hd 3 _ (by simp) (by decide) rfl)
          show wpOp Try.prog _ _ 4 K (⟨#[_, _, _, _, _, _, _, _, _, _, _, _, _, _, x 10, x 11, _, _, _, _, _, _, _, _, _, _, _, _, _, _, _, _, _, _, _, _, _, _, _, _, _, _, _, _, _, _, _, _, _, x 0, x 1, x 2, .pointer (some ⟨B, k * 4, none⟩), x 4, x 5, x 6, x 7, x 8, x 9, _, _, _, _, _, _, _, _, _, _, _, _, _, _, _, _, _, _, _, _, _, _, _, _, _, _, _, _, _, _, _, _, _, _, _, _, _, _, _, _, _, _, _, _, _, _, _, _, _, _, _, _, _, _, _, _, _, _, _, _, _, _, _, _, _, _, _, _, _, _, _, _, _, _, _, _, _, _, _, _, _, _, _, _, _, _, _, _, _, _, _, _, _, _, _, _, _, _, _, _, _, _, _, _, _, _, _, _, _, _, _, _, _, _, _, _, _, _, _, _, _, _, _, _, _, _, _, _, _, _, _, _, _, _, _, _, _, _, _, _, _, _, _, _, _, _, _, _, _, _, _, _, _, _, _, _, _, _, _, _, _, _, _, _, _, _, _, _, _, _, _, _, _, _, _, _, _, _, _, _, _, _, _, _, _, _, _, _, _, _, _, _, _, _, _, _, _, _, _, _, _, _, _, _, _, _, _, _, _, _, _, _, _], []⟩ : Act) v
          have qa := (gv.keep c0)
          have qb := (gv.keep c1)
          refine wpOp_step rfl (fun K' hK' => ?_)
          go_simp
          exact hK' _ _ (hK _ _ (Below.refl _ _) (at_of rfl rfl))
        · show wpOp Try.prog _ _ 5 K (⟨#[_, _, _, _, _, _, _, _, _, _, _, _, _, _, x 10, x 11, _, _, _, _, _, _, _, _, _, _, _, _, _, _, _, _, _, _, _, _, _, _, _, _, _, _, _, _, _, _, _, _, _, x 0, x 1, x 2, x 3, x 4, x 5, x 6, x 7, x 8, x 9, _, _, _, _, _, _, _, _, _, _, _, _, _, _, _, _, _, _, _, _, _, _, _, _, _, _, _, _, _, _, _, _, _, _, _, _, _, _, _, _, _, _, _, _, _, _, _, _, _, _, _, _, _, _, _, _, _, _, _, _, _, _, _, _, _, _, _, _, _, _, _, _, _, _, _, _, _, _, _, _, _, _, _, _, _, _, _, _, _, _, _, _, _, _, _, _, _, _, _, _, _, _, _, _, _, _, _, _, _, _, _, _, _, _, _, _, _, _, _, _, _, _, _, _, _, _, _, _, _, _, _, _, _, _, _, _, _, _, _, _, _, _, _, _, _, _, _, _, _, _, _, _, _, _, _, _, _, _, _, _, _, _, _, _, _, _, _, _, _, _, _, _, _, _, _, _, _, _, _, _, _, _, _, _, _, _, _, _, _, _, _, _, _, _, _, _, _, _, _, _, _, _, _, _, _, _, _, _, _, _, _, _, _], []⟩ : Act) v
          refine wpOp_step rfl (fun K' hK' => ?_)
          go_simp
          exact hK' _ _ (hK _ _ (Below.refl _ _) (at_of rfl rfl))
        · show wpOp Try.prog _ _ 6 K (⟨#[_, _, _, _, _, _, _, _, _, _, _, _, _, _, x 10, x 11, _, _, _, _, _, _, _, _, _, _, _, _, _, _, _, _, _, _, _, _, _, _, _, _, _, _, _, _, _, _, _, _, _, x 0, x 1, x 2, x 3, x 4, x 5, x 6, x 7, x 8, x 9, _, _, _, _, _, _, _, _, _, _, _, _, _, _, _, _, _, _, _, _, _, _, _, _, _, _, _, _, _, _, _, _, _, _, _, _, _, _, _, _, _, _, _, _, _, _, _, _, _, _, _, _, _, _, _, _, _, _, _, _, _, _, _, _, _, _, _, _, _, _, _, _, _, _, _, _, _, _, _, _, _, _, _, _, _, _, _, _, _, _, _, _, _, _, _, _, _, _, _, _, _, _, _, _, _, _, _, _, _, _, _, _, _, _, _, _, _, _, _, _, _, _, _, _, _, _, _, _, _, _, _, _, _, _, _, _, _, _, _, _, _, _, _, _, _, _, _, _, _, _, _, _, _, _, _, _, _, _, _, _, _, _, _, _, _, _, _, _, _, _, _, _, _, _, _, _, _, _, _, _, _, _, _, _, _, _, _, _, _, _, _, _, _, _, _, _, _, _, _, _, _, _, _, _, _, _, _, _, _, _, _, _, _], []⟩ : Act) v
          refine wpOp_step rfl (fun K' hK' => ?_)
          go_simp
          exact hK' _ _ (hK _ _ (Below.refl _ _) (at_of rfl rfl))
        · obtain ⟨x, rfl⟩ := upd_of (show x 5 = .slice (some ⟨B, 0, none⟩) l.length c from hd 5 _ (by simp) (by decide) rfl)
          obtain ⟨x, rfl⟩ := upd_of (show x 6 = .int .i64 (k : Int) from hd 6 _ (by simp) (by decide) rfl)
          show wpOp Try.prog _ _ 7 K (⟨#[_, _, _, _, _, _, _, _, _, _, _, _, _, _, x 10, x 11, _, _, _, _, _, _, _, _, _, _, _, _, _, _, _, _, _, _, _, _, _, _, _, _, _, _, _, _, _, _, _, _, _, x 0, x 1, x 2, x 3, x 4, .slice (some ⟨B, 0, none⟩) l.length c, .int .i64 (k : Int), x 7, x 8, x 9, _, _, _, _, _, _, _, _, _, _, _, _, _, _, _, _, _, _, _, _, _, _, _, _, _, _, _, _, _, _, _, _, _, _, _, _, _, _, _, _, _, _, _, _, _, _, _, _, _, _, _, _, _, _, _, _, _, _, _, _, _, _, _, _, _, _, _, _, _, _, _, _, _, _, _, _, _, _, _, _, _, _, _, _, _, _, _, _, _, _, _, _, _, _, _, _, _, _, _, _, _, _, _, _, _, _, _, _, _, _, _, _, _, _, _, _, _, _, _, _, _, _, _, _, _, _, _, _, _, _, _, _, _, _, _, _, _, _, _, _, _, _, _, _, _, _, _, _, _, _, _, _, _, _, _, _, _, _, _, _, _, _, _, _, _, _, _, _, _, _, _, _, _, _, _, _, _, _, _, _, _, _, _, _, _, _, _, _, _, _, _, _, _, _, _, _, _, _, _, _, _, _, _, _, _, _, _, _, _, _, _, _, _], []⟩ : Act) v
          refine wpOp_step rfl (fun K' hK' => ?_)
          go_simp
          exact hK' _ _ (hK _ _ (Below.refl _ _) (at_of rfl rfl))
        · obtain ⟨x, rfl⟩ := upd_of (show x 7 = .pointer (some ⟨B, k * 4, none⟩) from hd 7 _ (by simp) (by decide) rfl)
          show wpOp Try.prog _ _ 8 K (⟨#[_, _, _, _, _, _, _, _, _, _, _, _, _, _, x 10, x 11, _, _, _, _, _, _, _, _, _, _, _, _, _, _, _, _, _, _, _, _, _, _, _, _, _, _, _, _, _, _, _, _, _, x 0, x 1, x 2, x 3, x 4, x 5, x 6, .pointer (some ⟨B, k * 4, none⟩), x 8, x 9, _, _, _, _, _, _, _, _, _, _, _, _, _, _, _, _, _, _, _, _, _, _, _, _, _, _, _, _, _, _, _, _, _, _, _, _, _, _, _, _, _, _, _, _, _, _, _, _, _, _, _, _, _, _, _, _, _, _, _, _, _, _, _, _, _, _, _, _, _, _, _, _, _, _, _, _, _, _, _, _, _, _, _, _, _, _, _, _, _, _, _, _, _, _, _, _, _, _, _, _, _, _, _, _, _, _, _, _, _, _, _, _, _, _, _, _, _, _, _, _, _, _, _, _, _, _, _, _, _, _, _, _, _, _, _, _, _, _, _, _, _, _, _, _, _, _, _, _, _, _, _, _, _, _, _, _, _, _, _, _, _, _, _, _, _, _, _, _, _, _, _, _, _, _, _, _, _, _, _, _, _, _, _, _, _, _, _, _, _, _, _, _, _, _, _, _, _, _, _, _, _, _, _, _, _, _, _, _, _, _, _, _, _], []⟩ : Act) v
          refine wpOp_step rfl (fun K' hK' => ?_)
          go_simp
          exact hK' _ _ (hK _ _ (Below.refl _ _) (at_of rfl rfl))
        · obtain ⟨x, rfl⟩ := upd_of (show x 8 = .pointer (some ⟨B, k * 4 + 2, none⟩) from hd 8 _ (by simp) (by decide) rfl)
          show wpOp Try.prog _ _ 9 K (⟨#[_, _, _, _, _, _, _, _, _, _, _, _, _, _, x 10, x 11, _, _, _, _, _, _, _, _, _, _, _, _, _, _, _, _, _, _, _, _, _, _, _, _, _, _, _, _, _, _, _, _, _, x 0, x 1, x 2, x 3, x 4, x 5, x 6, x 7, .pointer (some ⟨B, k * 4 + 2, none⟩), x 9, _, _, _, _, _, _, _, _, _, _, _, _, _, _, _, _, _, _, _, _, _, _, _, _, _, _, _, _, _, _, _, _, _, _, _, _, _, _, _, _, _, _, _, _, _, _, _, _, _, _, _, _, _, _, _, _, _, _, _, _, _, _, _, _, _, _, _, _, _, _, _, _, _, _, _, _, _, _, _, _, _, _, _, _, _, _, _, _, _, _, _, _, _, _, _, _, _, _, _, _, _, _, _, _, _, _, _, _, _, _, _, _, _, _, _, _, _, _, _, _, _, _, _, _, _, _, _, _, _, _, _, _, _, _, _, _, _, _, _, _, _, _, _, _, _, _, _, _, _, _, _, _, _, _, _, _, _, _, _, _, _, _, _, _, _, _, _, _, _, _, _, _, _, _, _, _, _, _, _, _, _, _, _, _, _, _, _, _, _, _, _, _, _, _, _, _, _, _, _, _, _, _, _, _, _, _, _, _, _, _, _, _, _], []⟩ : Act) v
          have qa := (gv.keep c2)
          have qb := (gv.keep c3)
          refine wpOp_step rfl (fun K' hK' => ?_)
          go_simp
          exact hK' _ _ (hK _ _ (Below.refl _ _) (at_of rfl rfl))
      case pa6 =>
        rintro x v gv K hK
        show wpOp Try.prog _ _ 10 K (⟨#[_, _, _, _, _, _, _, _, _, _, _, _, _, _, x 10, x 11, _, _, _, _, _, _, _, _, _, _, _, _, _, _, _, _, _, _, _, _, _, _, _, _, _, _, _, _, _, _, _, _, _, x 0, x 1, x 2, x 3, x 4, x 5, x 6, x 7, x 8, x 9, _, _, _, _, _, _, _, _, _, _, _, _, _, _, _, _, _, _, _, _, _, _, _, _, _, _, _, _, _, _, _, _, _, _, _, _, _, _, _, _, _, _, _, _, _, _, _, _, _, _, _, _, _, _, _, _, _, _, _, _, _, _, _, _, _, _, _, _, _, _, _, _, _, _, _, _, _, _, _, _, _, _, _, _, _, _, _, _, _, _, _, _, _, _, _, _, _, _, _, _, _, _, _, _, _, _, _, _, _, _, _, _, _, _, _, _, _, _, _, _, _, _, _, _, _, _, _, _, _, _, _, _, _, _, _, _, _, _, _, _, _, _, _, _, _, _, _, _, _, _, _, _, _, _, _, _, _, _, _, _, _, _, _, _, _, _, _, _, _, _, _, _, _, _, _, _, _, _, _, _, _, _, _, _, _, _, _, _, _, _, _, _, _, _, _, _, _, _, _, _, _, _, _, _, _, _, _, _, _, _, _, _, _], []⟩ : Act) v
        refine wpOp_step rfl (fun K' hK' => ?_)
        go_simp
        exact hK' _ _ hK
      case pb6 =>
        rintro x v gv K hK
        show wpOp Try.prog _ _ 11 K (⟨#[_, _, _, _, _, _, _, _, _, _, _, _, _, _, x 10, x 11, _, _, _, _, _, _, _, _, _, _, _, _, _, _, _, _, _, _, _, _, _, _, _, _, _, _, _, _, _, _, _, _, _, x 0, x 1, x 2, x 3, x 4, x 5, x 6, x 7, x 8, x 9, _, _, _, _, _, _, _, _, _, _, _, _, _, _, _, _, _, _, _, _, _, _, _, _, _, _, _, _, _, _, _, _, _, _, _, _, _, _, _, _, _, _, _, _, _, _, _, _, _, _, _, _, _, _, _, _, _, _, _, _, _, _, _, _, _, _, _, _, _, _, _, _, _, _, _, _, _, _, _, _, _, _, _, _, _, _, _, _, _, _, _, _, _, _, _, _, _, _, _, _, _, _, _, _, _, _, _, _, _, _, _, _, _, _, _, _, _, _, _, _, _, _, _, _, _, _, _, _, _, _, _, _, _, _, _, _, _, _, _, _, _, _, _, _, _, _, _, _, _, _, _, _, _, _, _, _, _, _, _, _, _, _, _, _, _, _, _, _, _, _, _, _, _, _, _, _, _, _, _, _, _, _, _, _, _, _, _, _, _, _, _, _, _, _, _, _, _, _, _, _, _, _, _, _, _, _, _, _, _, _, _, _, _], []⟩ : Act) v
        refine wpOp_step rfl (fun K' hK' => ?_)
        go_simp
        exact hK' _ _ hK
      case qa6 =>
        rintro x v bb gv hbb e ho hd K hK
        obtain ⟨x, rfl⟩ := upd_of (show x 4 = .agg #[.int .i64 sl, .int .i64 sh] from hd 4 _ (by simp) (by decide) rfl)
        obtain ⟨x, rfl⟩ := upd_of (show x 10 = .pointer (some ⟨bb, 0, none⟩) from by simpa [upd] using e)
        show wpOp Try.prog _ _ 12 K (⟨#[_, _, _, _, _, _, _, _, _, _, _, _, _, _, .pointer (some ⟨bb, 0, none⟩), x 11, _, _, _, _, _, _, _, _, _, _, _, _, _, _, _, _, _, _, _, _, _, _, _, _, _, _, _, _, _, _, _, _, _, x 0, x 1, x 2, x 3, .agg #[.int .i64 sl, .int .i64 sh], x 5, x 6, x 7, x 8, x 9, _, _, _, _, _, _, _, _, _, _, _, _, _, _, _, _, _, _, _, _, _, _, _, _, _, _, _, _, _, _, _, _, _, _, _, _, _, _, _, _, _, _, _, _, _, _, _, _, _, _, _, _, _, _, _, _, _, _, _, _, _, _, _, _, _, _, _, _, _, _, _, _, _, _, _, _, _, _, _, _, _, _, _, _, _, _, _, _, _, _, _, _, _, _, _, _, _, _, _, _, _, _, _, _, _, _, _, _, _, _, _, _, _, _, _, _, _, _, _, _, _, _, _, _, _, _, _, _, _, _, _, _, _, _, _, _, _, _, _, _, _, _, _, _, _, _, _, _, _, _, _, _, _, _, _, _, _, _, _, _, _, _, _, _, _, _, _, _, _, _, _, _, _, _, _, _, _, _, _, _, _, _, _, _, _, _, _, _, _, _, _, _, _, _, _, _, _, _, _, _, _, _, _, _, _, _, _, _, _, _, _, _, _], []⟩ : Act) v
        obtain ⟨t0, t1⟩ := ho.1.c2
        have f0 := ho.2 0
        have f1 := ho.2 1
        refine wpOp_step rfl (fun K' hK' => ?_)
        go_simp
        exact hK' _ _ (hK _ ((Kx.set (Z := fun k => k = bb) (p := ⟨bb, 0, none⟩) rfl _).tr (Kx.set (Z := fun k => k = bb) (p := ⟨bb, 1, none⟩) rfl _)) ((ho.set (i := 0) (v := .int .i64 sl) (by simp)).set (i := 1) (v := .int .i64 sh) (by simp)))
      case qb6 =>
        exact fun h => absurd h (by omega)
      case fin6 =>
        rintro x v b1 b2 gv h1 h2 hne e1 e2 o1 o2 hd
        rw [if_neg (by omega)] at o2
        obtain ⟨x, rfl⟩ := upd_of (show x 9 = .agg #[.int .i64 wl, .int .i64 wh] from hd 9 _ (by omega) (by decide) rfl)
        obtain ⟨x, rfl⟩ := upd_of (show x 10 = .pointer (some ⟨b1, 0, none⟩) from by simpa [upd] using e1)
        obtain ⟨x, rfl⟩ := upd_of (show x 11 = .pointer (some ⟨b2, 0, none⟩) from by simpa [upd] using e2)
        clear hd e1 e2
        show wpList Try.prog _ _ (List.drop 13 _) (⟨#[_, _, _, _, _, _, _, _, _, _, _, _, _, _, .pointer (some ⟨b1, 0, none⟩), .pointer (some ⟨b2, 0, none⟩), _, _, _, _, _, _, _, _, _, _, _, _, _, _, _, _, _, _, _, _, _, _, _, _, _, _, _, _, _, _, _, _, _, x 0, x 1, x 2, x 3, x 4, x 5, x 6, x 7, x 8, .agg #[.int .i64 wl, .int .i64 wh], _, _, _, _, _, _, _, _, _, _, _, _, _, _, _, _, _, _, _, _, _, _, _, _, _, _, _, _, _, _, _, _, _, _, _, _, _, _, _, _, _, _, _, _, _, _, _, _, _, _, _, _, _, _, _, _, _, _, _, _, _, _, _, _, _, _, _, _, _, _, _, _, _, _, _, _, _, _, _, _, _, _, _, _, _, _, _, _, _, _, _, _, _, _, _, _, _, _, _, _, _, _, _, _, _, _, _, _, _, _, _, _, _, _, _, _, _, _, _, _, _, _, _, _, _, _, _, _, _, _, _, _, _, _, _, _, _, _, _, _, _, _, _, _, _, _, _, _, _, _, _, _, _, _, _, _, _, _, _, _, _, _, _, _, _, _, _, _, _, _, _, _, _, _, _, _, _, _, _, _, _, _, _, _, _, _, _, _, _, _, _, _, _, _, _, _, _, _, _, _, _, _, _, _, _, _, _, _, _, _, _, _, _], []⟩ : Act) v
        simp only [List.drop_succ_cons, List.drop_zero]
        obtain ⟨t0, t1⟩ := o2.1.c2
        have f0 := o2.2 0
        have f1 := o2.2 1
        go_upto_region 7 with fail
        have gX := (gv.setCell (p := ⟨b2, 0, none⟩) h2 (.int .i64 wl)).setCell (p := ⟨b2, 1, none⟩) h2 (.int .i64 wh)
        have x1 := ((o1.other (b := b2) (i := 0) (v := .int .i64 wl) hne).other (b := b2) (i := 1) (v := .int .i64 wh) hne).1
        have x2 := ((o2.set (i := 0) (v := .int .i64 wl) (by simp)).set (i := 1) (v := .int .i64 wh) (by simp)).1
        refine wp_abs (fun X => Gr wr X ∧ Box X b1 [.int .i64 sl, .int .i64 sh] ∧ Box X b2 [.int .i64 wl, .int .i64 wh]) ⟨gX, x1, x2⟩ ?_
        clear gX x1 x2 o1 o2 t0 t1 f0 f1 gv
        clear v
        rintro X ⟨gX, x1, x2⟩
        have k1 : k + 1 ≤ maxLen := by unfold maxLen; omega
        have k2 : (k + 1) * 8 ≤ 140737488355328 := by omega
        have gV7 := gW.tr gX
        have hZ1 := h4.lt
        have hZ2 := h4.turn.lt
        have hZ3 := h4.turn.turn.lt
        have hZ4 := h4.turn.turn.turn.lt
        have h47 := h4.keep gX
        have hbb : V.heap.size ≤ B0 := hB1.1
        obtain ⟨SA, hSA⟩ : ∃ L, strT l Y k = L := ⟨_, rfl⟩
        obtain ⟨SB, hSB⟩ : ∃ L, hvyT l Y k = L := ⟨_, rfl⟩
        obtain ⟨SC, hSC⟩ : ∃ L, weakT l k = L := ⟨_, rfl⟩
        obtain ⟨SD, hSD⟩ : ∃ L, mostT l k = L := ⟨_, rfl⟩
        rw [hSA] at HS1
        rw [hSB] at HS2
        rw [hSC] at HS3
        rw [hSD] at HS4
        rw [hSA, hSB, hSC, hSD] at h47
        have lA : SA.length = k := by rw [← hSA]; exact strT_len _ _ _
        have lB : SB.length = k := by rw [← hSB]; exact hvyT_len _ _ _
        have lC : SC.length = k := by rw [← hSC]; exact weakT_len hk
        have lD : SD.length = k := by rw [← hSD]; exact mostT_len hk
        clear h4 hSA hSB hSC hSD
        refine (show (∀ z : Nat → Value, Code.wp Try.prog _ _ ⟨#[s 0, .slice ya Y.length yc, .int .u8 days, .pointer (some ⟨w.heap.size, 0, none⟩), s 4, s 5, .bool false, .slice (some ⟨B, 0, none⟩) l.length c, .slice (some ⟨D, 0, none⟩) t.length f, u9, u10, u11, u12, .int .i64 (k : Int), .pointer (some ⟨b1, 0, none⟩), .pointer (some ⟨b2, 0, none⟩), undef, undef, undef, undef, undef, undef, undef, undef, undef, undef, undef, undef, undef, undef, undef, undef, undef, undef, s 34, s 35, s 36, s 37, s 38, s 39, s 40, s 41, s 42, y 43, y 44, y 45, y 46, y 47, y 48, z 49, z 50, z 51, z 52, z 53, z 54, z 55, z 56, z 57, z 58, y 59, y 60, y 61, y 62, y 63, y 64, y 65, y 66, y 67, y 68, y 69, y 70, y 71, y 72, y 73, y 74, y 75, y 76, y 77, y 78, y 79, y 80, y 81, y 82, y 83, y 84, y 85, y 86, y 87, y 88, y 89, y 90, y 91, y 92, y 93, y 94, y 95, y 96, y 97, y 98, y 99, y 100, y 101, y 102, y 103, undef, undef, undef, undef, undef, undef, undef, undef, undef, undef, undef, undef, undef, undef, undef, undef, undef, undef, undef, undef, undef, undef, undef, undef, undef, undef, undef, undef, undef, undef, undef, undef, undef, undef, undef, undef, undef, undef, undef, undef, undef, undef, undef, undef, undef, undef, undef, undef, undef, undef, undef, undef, undef, undef, undef, undef, undef, undef, undef, undef, undef, undef, undef, undef, undef, undef, undef, undef, undef, undef, undef, undef, undef, undef, undef, undef, undef, undef, undef, undef, undef, undef, undef, undef, undef, undef, undef, undef, undef, undef, undef, undef, undef, undef, undef, undef, undef, undef, undef, undef, undef, undef, undef, undef, undef, undef, undef, undef, undef, undef, undef, undef, undef, undef, undef, undef, undef, undef, undef, undef, undef, undef, undef, undef, undef, undef, undef, undef, undef, undef, undef, undef, undef, undef, undef, undef, undef, undef, undef, undef, undef, undef, undef, undef, undef, undef, undef, undef, undef, undef, undef, undef, undef, undef, undef, undef, undef, undef, undef, undef, undef, undef, undef, undef, undef, undef, undef, undef], []⟩ _) → _ from fun h => h ((fun l : List Value => fun i => l.getD i undef) [undef, undef, undef, undef, undef, undef, undef, undef, undef, undef, undef, undef, undef, undef, undef, undef, undef, undef, undef, undef, undef, undef, undef, undef, undef, undef, undef, undef, undef, undef, undef, undef, undef, undef, undef, undef, undef, undef, undef, undef, undef, undef, undef, undef, undef, undef, undef, undef, undef, _, _, _, _, _, _, _, _, _, _, undef, undef, undef, undef, undef, undef, undef, undef, undef, undef, undef, undef, undef, undef, undef, undef, undef, undef, undef, undef, undef, undef, undef, undef, undef, undef, undef, undef, undef, undef, undef, undef, undef, undef, undef, undef, undef, undef, undef, undef, undef, undef, undef, undef, undef])) ?_
        intro z
        dsimp only
        refine wp_region_two3 (fun b => B0 ≤ b ∧ b < wr.heap.size) 35 16 34 24 [(2, 1), (5, 4), (6, 3), (6, 5), (8, 7), (10, 9), (11, 8), (11, 10), (12, 6), (12, 11), (13, 12), (14, 2), (14, 13), (15, 14), (16, 0), (16, 15), (19, 18), (22, 21), (23, 22), (24, 16), (24, 20), (24, 23), (26, 25), (28, 27), (29, 26), (29, 28), (30, 24), (30, 29), (31, 30), (32, 19), (32, 31), (33, 32), (34, 17), (34, 24), (34, 33)] (fun x => ⟨#[s 0, .slice ya Y.length yc, .int .u8 days, .pointer (some ⟨w.heap.size, 0, none⟩), s 4, s 5, .bool false, .slice (some ⟨B, 0, none⟩) l.length c, .slice (some ⟨D, 0, none⟩) t.length f, u9, u10, u11, u12, .int .i64 (k : Int), .pointer (some ⟨b1, 0, none⟩), .pointer (some ⟨b2, 0, none⟩), undef, undef, undef, undef, undef, undef, undef, undef, undef, undef, undef, undef, undef, undef, undef, undef, undef, undef, s 34, s 35, s 36, s 37, s 38, s 39, s 40, s 41, s 42, y 43, y 44, y 45, y 46, y 47, y 48, z 49, z 50, z 51, z 52, z 53, z 54, z 55, z 56, z 57, z 58, x 0, x 1, x 2, x 3, x 4, x 5, x 6, x 7, x 8, x 9, x 10, x 11, x 12, x 13, x 14, x 15, x 16, x 17, x 18, x 19, x 20, x 21, x 22, x 23, x 24, x 25, x 26, x 27, x 28, x 29, x 30, x 31, x 32, x 33, x 34, y 94, y 95, y 96, y 97, y 98, y 99, y 100, y 101, y 102, y 103, undef, undef, undef, undef, undef, undef, undef, undef, undef, undef, undef, undef, undef, undef, undef, undef, undef, undef, undef, undef, undef, undef, undef, undef, undef, undef, undef, undef, undef, undef, undef, undef, undef, undef, undef, undef, undef, undef, undef, undef, undef, undef, undef, undef, undef, undef, undef, undef, undef, undef, undef, undef, undef, undef, undef, undef, undef, undef, undef, undef, undef, undef, undef, undef, undef, undef, undef, undef, undef, undef, undef, undef, undef, undef, undef, undef, undef, undef, undef, undef, undef, undef, undef, undef, undef, undef, undef, undef, undef, undef, undef, undef, undef, undef, undef, undef, undef, undef, undef, undef, undef, undef, undef, undef, undef, undef, undef, undef, undef, undef, undef, undef, undef, undef, undef, undef, undef, undef, undef, undef, undef, undef, undef, undef, undef, undef, undef, undef, undef, undef, undef, undef, undef, undef, undef, undef, undef, undef, undef, undef, undef, undef, undef, undef, undef, undef, undef, undef, undef, undef, undef, undef, undef, undef, undef, undef, undef, undef, undef, undef, undef, undef, undef, undef, undef, undef, undef, undef], []⟩) (fun i => [y 59, y 60, y 61, y 62, y 63, y 64, y 65, y 66, y 67, y 68, y 69, y 70, y 71, y 72, y 73, y 74, y 75, y 76, y 77, y 78, y 79, y 80, y 81, y 82, y 83, y 84, y 85, y 86, y 87, y 88, y 89, y 90, y 91, y 92, y 93].getD i undef) [fun _ x => x = u9, fun _ x => x = .pointer (some ⟨b1, 0, none⟩), fun _ x => x = .int .i64 sl, fun _ x => x = .slice ya Y.length yc, fun _ x => x = .int .i64 (k : Int), fun _ x => x = .int .i64 (K2 : Int), fun _ x => x = .int .i64 y0, fun _ x => x = .pointer (some ⟨b1, 1, none⟩), fun _ x => x = .int .i64 sh, fun _ x => x = .pointer (some ⟨b1, 0, none⟩), fun _ x => x = .int .i64 sl, fun _ x => x = .int .i64 dS, fun _ x => x = .int .i64 m0, fun _ x => x = .int .i64 v0, fun _ x => x = .int .i64 sv, fun v x => ∃ b, x = .slice (some ⟨b, 0, none⟩) 1 1 ∧ wr.heap.size ≤ b ∧ Box v b [.int .i64 sv], fun _ _ => True, fun _ x => x = u10, fun _ x => x = .pointer (some ⟨b2, 0, none⟩), fun _ x => x = .int .i64 wl, fun _ x => x = .slice ya Y.length yc, fun _ x => x = .int .i64 (k : Int), fun _ x => x = .int .i64 (K2 : Int), fun _ x => x = .int .i64 (K3 : Int), fun _ x => x = .int .i64 y1, fun _ x => x = .pointer (some ⟨b2, 1, none⟩), fun _ x => x = .int .i64 wh, fun _ x => x = .pointer (some ⟨b2, 0, none⟩), fun _ x => x = .int .i64 wl, fun _ x => x = .int .i64 dW, fun _ x => x = .int .i64 m1, fun _ x => x = .int .i64 v1, fun _ x => x = .int .i64 hv, fun v x => ∃ b, x = .slice (some ⟨b, 0, none⟩) 1 1 ∧ wr.heap.size ≤ b ∧ Box v b [.int .i64 hv], fun _ _ => True] (fun v => Gr V v ∧ Box v b1 [.int .i64 sl, .int .i64 sh] ∧ Box v b2 [.int .i64 wl, .int .i64 wh]) (fun v => Four v B0 u9 u10 u11 u12 SA SB SC SD) (fun v x => Four v B0 x u10 u11 u12 (SA ++ [sv]) SB SC SD) (fun v x y => Four v B0 x y u11 u12 (SA ++ [sv]) (SB ++ [hv]) SC SD) (by rfl) (by kernel_rfl) (by kernel_rfl) (by kernel_rfl) (by simp) (by simp) (by omega) (by omega) (by omega) (staysZ_cons (StaysZ.eq _ _) (staysZ_cons (StaysZ.eq _ _) (staysZ_cons (StaysZ.eq _ _) (staysZ_cons (StaysZ.eq _ _) (staysZ_cons (StaysZ.eq _ _) (staysZ_cons (StaysZ.eq _ _) (staysZ_cons (StaysZ.eq _ _) (staysZ_cons (StaysZ.eq _ _) (staysZ_cons (StaysZ.eq _ _) (staysZ_cons (StaysZ.eq _ _) (staysZ_cons (StaysZ.eq _ _) (staysZ_cons (StaysZ.eq _ _) (staysZ_cons (StaysZ.eq _ _) (staysZ_cons (StaysZ.eq _ _) (staysZ_cons (StaysZ.eq _ _) (staysZ_cons (show StaysZ (fun b => B0 ≤ b ∧ b < wr.heap.size) (fun v x => ∃ b, x = .slice (some ⟨b, 0, none⟩) 1 1 ∧ wr.heap.size ≤ b ∧ Box v b [.int .i64 sv]) from fun v v' x g ⟨b, h, h1, h2⟩ => ⟨b, h, h1, h2.kx g (by omega)⟩) (staysZ_cons (fun _ _ _ _ _ => trivial) (staysZ_cons (StaysZ.eq _ _) (staysZ_cons (StaysZ.eq _ _) (staysZ_cons (StaysZ.eq _ _) (staysZ_cons (StaysZ.eq _ _) (staysZ_cons (StaysZ.eq _ _) (staysZ_cons (StaysZ.eq _ _) (staysZ_cons (StaysZ.eq _ _) (staysZ_cons (StaysZ.eq _ _) (staysZ_cons (StaysZ.eq _ _) (staysZ_cons (StaysZ.eq _ _) (staysZ_cons (StaysZ.eq _ _) (staysZ_cons (StaysZ.eq _ _) (staysZ_cons (StaysZ.eq _ _) (staysZ_cons (StaysZ.eq _ _) (staysZ_cons (StaysZ.eq _ _) (staysZ_cons (StaysZ.eq _ _) (staysZ_cons (show StaysZ (fun b => B0 ≤ b ∧ b < wr.heap.size) (fun v x => ∃ b, x = .slice (some ⟨b, 0, none⟩) 1 1 ∧ wr.heap.size ≤ b ∧ Box v b [.int .i64 hv]) from fun v v' x g ⟨b, h, h1, h2⟩ => ⟨b, h, h1, h2.kx g (by omega)⟩) (staysZ_cons (fun _ _ _ _ _ => trivial) staysZ_nil)))))))))))))))))))))))))))))))))))
          (fun v v' g h => ⟨Kx.toGr ((Kx.gr (Z := noBlock) h.1).th g (fun i e => .inr (by omega))), h.2.1.kx g (by omega), h.2.2.kx g (by omega)⟩) (fun v v' g h => h.keep g) (fun v v' x g h => h.keep g) (fun v v' x y g h => h.keep g) ⟨gV7.tr (Gr.dr _), x1.keep (Gr.dr _), x2.keep (Gr.dr _)⟩ (h47.keep (Gr.dr _)) ?step7 ?pp7 ?qq7 ?fin7
        case step7 =>
          rintro i hi np nq x v hc hd K hK
          have hi8 : i = 0 ∨ i = 1 ∨ i = 2 ∨ i = 3 ∨ i = 4 ∨ i = 5 ∨ i = 6 ∨ i = 7 ∨ i = 8 ∨ i = 9 ∨ i = 10 ∨ i = 11 ∨ i = 12 ∨ i = 13 ∨ i = 14 ∨ i = 15 ∨ i = 17 ∨ i = 18 ∨ i = 19 ∨ i = 20 ∨ i = 21 ∨ i = 22 ∨ i = 23 ∨ i = 24 ∨ i = 25 ∨ i = 26 ∨ i = 27 ∨ i = 28 ∨ i = 29 ∨ i = 30 ∨ i = 31 ∨ i = 32 ∨ i = 33 := by omega
          rcases hi8 with rfl | rfl | rfl | rfl | rfl | rfl | rfl | rfl | rfl | rfl | rfl | rfl | rfl | rfl | rfl | rfl | rfl | rfl | rfl | rfl | rfl | rfl | rfl | rfl | rfl | rfl | rfl | rfl | rfl | rfl | rfl | rfl | rfl
          · show wpOp Try.prog _ _ 0 K (⟨#[_, _, _, _, _, _, _, _, _, _, _, _, _, _, _, _, _, _, _, _, _, _, _, _, _, _, _, _, _, _, _, _, _, _, _, _, _, _, _, _, _, _, _, _, _, _, _, _, _, _, _, _, _, _, _, _, _, _, _, x 0, x 1, x 2, x 3, x 4, x 5, x 6, x 7, x 8, x 9, x 10, x 11, x 12, x 13, x 14, x 15, x 16, x 17, x 18, x 19, x 20, x 21, x 22, x 23, x 24, x 25, x 26, x 27, x 28, x 29, x 30, x 31, x 32, x 33, x 34, _, _, _, _, _, _, _, _, _, _, _, _, _, _, _, _, _, _, _, _, _, _, _, _, _, _, _, _, _, _, _, _, _, _, _, _, _, _, _, _, _, _, _, _, _, _, _, _, _, _, _, _, _, _, _, _, _, _, _, _, _, _, _, _, _, _, _, _, _, _, _, _, _, _, _, _, _, _, _, _, _, _, _, _, _, _, _, _, _, _, _, _, _, _, _, _, _, _, _, _, _, _, _, _, _, _, _, _, _, _, _, _, _, _, _, _, _, _, _, _, _, _, _, _, _, _, _, _, _, _, _, _, _, _, _, _, _, _, _, _, _, _, _, _, _, _, _, _, _, _, _, _, _, _, _, _, _, _, _, _, _, _, _, _, _, _, _, _, _, _, _, _, _, _, _, _, _, _], []⟩ : Act) v
            refine wpOp_step rfl (fun K' hK' => ?_)
            go_simp
            exact hK' _ _ (hK _ _ (Below.refl _ _) (at_of rfl rfl))
          · show wpOp Try.prog _ _ 1 K (⟨#[_, _, _, _, _, _, _, _, _, _, _, _, _, _, _, _, _, _, _, _, _, _, _, _, _, _, _, _, _, _, _, _, _, _, _, _, _, _, _, _, _, _, _, _, _, _, _, _, _, _, _, _, _, _, _, _, _, _, _, x 0, x 1, x 2, x 3, x 4, x 5, x 6, x 7, x 8, x 9, x 10, x 11, x 12, x 13, x 14, x 15, x 16, x 17, x 18, x 19, x 20, x 21, x 22, x 23, x 24, x 25, x 26, x 27, x 28, x 29, x 30, x 31, x 32, x 33, x 34, _, _, _, _, _, _, _, _, _, _, _, _, _, _, _, _, _, _, _, _, _, _, _, _, _, _, _, _, _, _, _, _, _, _, _, _, _, _, _, _, _, _, _, _, _, _, _, _, _, _, _, _, _, _, _, _, _, _, _, _, _, _, _, _, _, _, _, _, _, _, _, _, _, _, _, _, _, _, _, _, _, _, _, _, _, _, _, _, _, _, _, _, _, _, _, _, _, _, _, _, _, _, _, _, _, _, _, _, _, _, _, _, _, _, _, _, _, _, _, _, _, _, _, _, _, _, _, _, _, _, _, _, _, _, _, _, _, _, _, _, _, _, _, _, _, _, _, _, _, _, _, _, _, _, _, _, _, _, _, _, _, _, _, _, _, _, _, _, _, _, _, _, _, _, _, _, _, _], []⟩ : Act) v
            refine wpOp_step rfl (fun K' hK' => ?_)
            go_simp
            exact hK' _ _ (hK _ _ (Below.refl _ _) (at_of rfl rfl))
          · obtain ⟨x, rfl⟩ := upd_of (show x 1 = .pointer (some ⟨b1, 0, none⟩) from hd 1 _ (by simp) (by decide) (by decide) rfl)
            show wpOp Try.prog _ _ 2 K (⟨#[_, _, _, _, _, _, _, _, _, _, _, _, _, _, _, _, _, _, _, _, _, _, _, _, _, _, _, _, _, _, _, _, _, _, _, _, _, _, _, _, _, _, _, _, _, _, _, _, _, _, _, _, _, _, _, _, _, _, _, x 0, .pointer (some ⟨b1, 0, none⟩), x 2, x 3, x 4, x 5, x 6, x 7, x 8, x 9, x 10, x 11, x 12, x 13, x 14, x 15, x 16, x 17, x 18, x 19, x 20, x 21, x 22, x 23, x 24, x 25, x 26, x 27, x 28, x 29, x 30, x 31, x 32, x 33, x 34, _, _, _, _, _, _, _, _, _, _, _, _, _, _, _, _, _, _, _, _, _, _, _, _, _, _, _, _, _, _, _, _, _, _, _, _, _, _, _, _, _, _, _, _, _, _, _, _, _, _, _, _, _, _, _, _, _, _, _, _, _, _, _, _, _, _, _, _, _, _, _, _, _, _, _, _, _, _, _, _, _, _, _, _, _, _, _, _, _, _, _, _, _, _, _, _, _, _, _, _, _, _, _, _, _, _, _, _, _, _, _, _, _, _, _, _, _, _, _, _, _, _, _, _, _, _, _, _, _, _, _, _, _, _, _, _, _, _, _, _, _, _, _, _, _, _, _, _, _, _, _, _, _, _, _, _, _, _, _, _, _, _, _, _, _, _, _, _, _, _, _, _, _, _, _, _, _, _], []⟩ : Act) v
            have qq := hc.2.1.2 0 _ rfl
            refine wpOp_step rfl (fun K' hK' => ?_)
            go_simp
            exact hK' _ _ (hK _ _ (Below.refl _ _) (at_of rfl rfl))
          · show wpOp Try.prog _ _ 3 K (⟨#[_, _, _, _, _, _, _, _, _, _, _, _, _, _, _, _, _, _, _, _, _, _, _, _, _, _, _, _, _, _, _, _, _, _, _, _, _, _, _, _, _, _, _, _, _, _, _, _, _, _, _, _, _, _, _, _, _, _, _, x 0, x 1, x 2, x 3, x 4, x 5, x 6, x 7, x 8, x 9, x 10, x 11, x 12, x 13, x 14, x 15, x 16, x 17, x 18, x 19, x 20, x 21, x 22, x 23, x 24, x 25, x 26, x 27, x 28, x 29, x 30, x 31, x 32, x 33, x 34, _, _, _, _, _, _, _, _, _, _, _, _, _, _, _, _, _, _, _, _, _, _, _, _, _, _, _, _, _, _, _, _, _, _, _, _, _, _, _, _, _, _, _, _, _, _, _, _, _, _, _, _, _, _, _, _, _, _, _, _, _, _, _, _, _, _, _, _, _, _, _, _, _, _, _, _, _, _, _, _, _, _, _, _, _, _, _, _, _, _, _, _, _, _, _, _, _, _, _, _, _, _, _, _, _, _, _, _, _, _, _, _, _, _, _, _, _, _, _, _, _, _, _, _, _, _, _, _, _, _, _, _, _, _, _, _, _, _, _, _, _, _, _, _, _, _, _, _, _, _, _, _, _, _, _, _, _, _, _, _, _, _, _, _, _, _, _, _, _, _, _, _, _, _, _, _, _, _], []⟩ : Act) v
            refine wpOp_step rfl (fun K' hK' => ?_)
            go_simp
            exact hK' _ _ (hK _ _ (Below.refl _ _) (at_of rfl rfl))
          · show wpOp Try.prog _ _ 4 K (⟨#[_, _, _, _, _, _, _, _, _, _, _, _, _, _, _, _, _, _, _, _, _, _, _, _, _, _, _, _, _, _, _, _, _, _, _, _, _, _, _, _, _, _, _, _, _, _, _, _, _, _, _, _, _, _, _, _, _, _, _, x 0, x 1, x 2, x 3, x 4, x 5, x 6, x 7, x 8, x 9, x 10, x 11, x 12, x 13, x 14, x 15, x 16, x 17, x 18, x 19, x 20, x 21, x 22, x 23, x 24, x 25, x 26, x 27, x 28, x 29, x 30, x 31, x 32, x 33, x 34, _, _, _, _, _, _, _, _, _, _, _, _, _, _, _, _, _, _, _, _, _, _, _, _, _, _, _, _, _, _, _, _, _, _, _, _, _, _, _, _, _, _, _, _, _, _, _, _, _, _, _, _, _, _, _, _, _, _, _, _, _, _, _, _, _, _, _, _, _, _, _, _, _, _, _, _, _, _, _, _, _, _, _, _, _, _, _, _, _, _, _, _, _, _, _, _, _, _, _, _, _, _, _, _, _, _, _, _, _, _, _, _, _, _, _, _, _, _, _, _, _, _, _, _, _, _, _, _, _, _, _, _, _, _, _, _, _, _, _, _, _, _, _, _, _, _, _, _, _, _, _, _, _, _, _, _, _, _, _, _, _, _, _, _, _, _, _, _, _, _, _, _, _, _, _, _, _, _], []⟩ : Act) v
            refine wpOp_step rfl (fun K' hK' => ?_)
            go_simp
            exact hK' _ _ (hK _ _ (Below.refl _ _) (at_of rfl rfl))
          · obtain ⟨x, rfl⟩ := upd_of (show x 4 = .int .i64 (k : Int) from hd 4 _ (by simp) (by decide) (by decide) rfl)
            show wpOp Try.prog _ _ 5 K (⟨#[_, _, _, _, _, _, _, _, _, _, _, _, _, _, _, _, _, _, _, _, _, _, _, _, _, _, _, _, _, _, _, _, _, _, _, _, _, _, _, _, _, _, _, _, _, _, _, _, _, _, _, _, _, _, _, _, _, _, _, x 0, x 1, x 2, x 3, .int .i64 (k : Int), x 5, x 6, x 7, x 8, x 9, x 10, x 11, x 12, x 13, x 14, x 15, x 16, x 17, x 18, x 19, x 20, x 21, x 22, x 23, x 24, x 25, x 26, x 27, x 28, x 29, x 30, x 31, x 32, x 33, x 34, _, _, _, _, _, _, _, _, _, _, _, _, _, _, _, _, _, _, _, _, _, _, _, _, _, _, _, _, _, _, _, _, _, _, _, _, _, _, _, _, _, _, _, _, _, _, _, _, _, _, _, _, _, _, _, _, _, _, _, _, _, _, _, _, _, _, _, _, _, _, _, _, _, _, _, _, _, _, _, _, _, _, _, _, _, _, _, _, _, _, _, _, _, _, _, _, _, _, _, _, _, _, _, _, _, _, _, _, _, _, _, _, _, _, _, _, _, _, _, _, _, _, _, _, _, _, _, _, _, _, _, _, _, _, _, _, _, _, _, _, _, _, _, _, _, _, _, _, _, _, _, _, _, _, _, _, _, _, _, _, _, _, _, _, _, _, _, _, _, _, _, _, _, _, _, _, _, _], []⟩ : Act) v
            refine wpOp_step rfl (fun K' hK' => ?_)
            go_simp
            exact hK' _ _ (hK _ _ (Below.refl _ _) (at_of rfl rfl))
          · obtain ⟨x, rfl⟩ := upd_of (show x 3 = .slice ya Y.length yc from hd 3 _ (by simp) (by decide) (by decide) rfl)
            obtain ⟨x, rfl⟩ := upd_of (show x 5 = .int .i64 (K2 : Int) from hd 5 _ (by simp) (by decide) (by decide) rfl)
            show wpOp Try.prog _ _ 6 K (⟨#[_, _, _, _, _, _, _, _, _, _, _, _, _, _, _, _, _, _, _, _, _, _, _, _, _, _, _, _, _, _, _, _, _, _, _, _, _, _, _, _, _, _, _, _, _, _, _, _, _, _, _, _, _, _, _, _, _, _, _, x 0, x 1, x 2, .slice ya Y.length yc, x 4, .int .i64 (K2 : Int), x 6, x 7, x 8, x 9, x 10, x 11, x 12, x 13, x 14, x 15, x 16, x 17, x 18, x 19, x 20, x 21, x 22, x 23, x 24, x 25, x 26, x 27, x 28, x 29, x 30, x 31, x 32, x 33, x 34, _, _, _, _, _, _, _, _, _, _, _, _, _, _, _, _, _, _, _, _, _, _, _, _, _, _, _, _, _, _, _, _, _, _, _, _, _, _, _, _, _, _, _, _, _, _, _, _, _, _, _, _, _, _, _, _, _, _, _, _, _, _, _, _, _, _, _, _, _, _, _, _, _, _, _, _, _, _, _, _, _, _, _, _, _, _, _, _, _, _, _, _, _, _, _, _, _, _, _, _, _, _, _, _, _, _, _, _, _, _, _, _, _, _, _, _, _, _, _, _, _, _, _, _, _, _, _, _, _, _, _, _, _, _, _, _, _, _, _, _, _, _, _, _, _, _, _, _, _, _, _, _, _, _, _, _, _, _, _, _, _, _, _, _, _, _, _, _, _, _, _, _, _, _, _, _, _, _], []⟩ : Act) v
            refine wpOp_step rfl (fun K' hK' => ?_)
            go_simp
            refine (HB1.out v hc.1).mono ?_
            rintro e v' ⟨rfl, hg⟩
            exact hK' _ _ (hK _ _ hg (at_of rfl rfl))
          · show wpOp Try.prog _ _ 7 K (⟨#[_, _, _, _, _, _, _, _, _, _, _, _, _, _, _, _, _, _, _, _, _, _, _, _, _, _, _, _, _, _, _, _, _, _, _, _, _, _, _, _, _, _, _, _, _, _, _, _, _, _, _, _, _, _, _, _, _, _, _, x 0, x 1, x 2, x 3, x 4, x 5, x 6, x 7, x 8, x 9, x 10, x 11, x 12, x 13, x 14, x 15, x 16, x 17, x 18, x 19, x 20, x 21, x 22, x 23, x 24, x 25, x 26, x 27, x 28, x 29, x 30, x 31, x 32, x 33, x 34, _, _, _, _, _, _, _, _, _, _, _, _, _, _, _, _, _, _, _, _, _, _, _, _, _, _, _, _, _, _, _, _, _, _, _, _, _, _, _, _, _, _, _, _, _, _, _, _, _, _, _, _, _, _, _, _, _, _, _, _, _, _, _, _, _, _, _, _, _, _, _, _, _, _, _, _, _, _, _, _, _, _, _, _, _, _, _, _, _, _, _, _, _, _, _, _, _, _, _, _, _, _, _, _, _, _, _, _, _, _, _, _, _, _, _, _, _, _, _, _, _, _, _, _, _, _, _, _, _, _, _, _, _, _, _, _, _, _, _, _, _, _, _, _, _, _, _, _, _, _, _, _, _, _, _, _, _, _, _, _, _, _, _, _, _, _, _, _, _, _, _, _, _, _, _, _, _, _], []⟩ : Act) v
            refine wpOp_step rfl (fun K' hK' => ?_)
            go_simp
            exact hK' _ _ (hK _ _ (Below.refl _ _) (at_of rfl rfl))
          · obtain ⟨x, rfl⟩ := upd_of (show x 7 = .pointer (some ⟨b1, 1, none⟩) from hd 7 _ (by simp) (by decide) (by decide) rfl)
            show wpOp Try.prog _ _ 8 K (⟨#[_, _, _, _, _, _, _, _, _, _, _, _, _, _, _, _, _, _, _, _, _, _, _, _, _, _, _, _, _, _, _, _, _, _, _, _, _, _, _, _, _, _, _, _, _, _, _, _, _, _, _, _, _, _, _, _, _, _, _, x 0, x 1, x 2, x 3, x 4, x 5, x 6, .pointer (some ⟨b1, 1, none⟩), x 8, x 9, x 10, x 11, x 12, x 13, x 14, x 15, x 16, x 17, x 18, x 19, x 20, x 21, x 22, x 23, x 24, x 25, x 26, x 27, x 28, x 29, x 30, x 31, x 32, x 33, x 34, _, _, _, _, _, _, _, _, _, _, _, _, _, _, _, _, _, _, _, _, _, _, _, _, _, _, _, _, _, _, _, _, _, _, _, _, _, _, _, _, _, _, _, _, _, _, _, _, _, _, _, _, _, _, _, _, _, _, _, _, _, _, _, _, _, _, _, _, _, _, _, _, _, _, _, _, _, _, _, _, _, _, _, _, _, _, _, _, _, _, _, _, _, _, _, _, _, _, _, _, _, _, _, _, _, _, _, _, _, _, _, _, _, _, _, _, _, _, _, _, _, _, _, _, _, _, _, _, _, _, _, _, _, _, _, _, _, _, _, _, _, _, _, _, _, _, _, _, _, _, _, _, _, _, _, _, _, _, _, _, _, _, _, _, _, _, _, _, _, _, _, _, _, _, _, _, _, _], []⟩ : Act) v
            have qq := hc.2.1.2 1 _ rfl
            refine wpOp_step rfl (fun K' hK' => ?_)
            go_simp
            exact hK' _ _ (hK _ _ (Below.refl _ _) (at_of rfl rfl))
          · show wpOp Try.prog _ _ 9 K (⟨#[_, _, _, _, _, _, _, _, _, _, _, _, _, _, _, _, _, _, _, _, _, _, _, _, _, _, _, _, _, _, _, _, _, _, _, _, _, _, _, _, _, _, _, _, _, _, _, _, _, _, _, _, _, _, _, _, _, _, _, x 0, x 1, x 2, x 3, x 4, x 5, x 6, x 7, x 8, x 9, x 10, x 11, x 12, x 13, x 14, x 15, x 16, x 17, x 18, x 19, x 20, x 21, x 22, x 23, x 24, x 25, x 26, x 27, x 28, x 29, x 30, x 31, x 32, x 33, x 34, _, _, _, _, _, _, _, _, _, _, _, _, _, _, _, _, _, _, _, _, _, _, _, _, _, _, _, _, _, _, _, _, _, _, _, _, _, _, _, _, _, _, _, _, _, _, _, _, _, _, _, _, _, _, _, _, _, _, _, _, _, _, _, _, _, _, _, _, _, _, _, _, _, _, _, _, _, _, _, _, _, _, _, _, _, _, _, _, _, _, _, _, _, _, _, _, _, _, _, _, _, _, _, _, _, _, _, _, _, _, _, _, _, _, _, _, _, _, _, _, _, _, _, _, _, _, _, _, _, _, _, _, _, _, _, _, _, _, _, _, _, _, _, _, _, _, _, _, _, _, _, _, _, _, _, _, _, _, _, _, _, _, _, _, _, _, _, _, _, _, _, _, _, _, _, _, _, _], []⟩ : Act) v
            refine wpOp_step rfl (fun K' hK' => ?_)
            go_simp
            exact hK' _ _ (hK _ _ (Below.refl _ _) (at_of rfl rfl))
          · obtain ⟨x, rfl⟩ := upd_of (show x 9 = .pointer (some ⟨b1, 0, none⟩) from hd 9 _ (by simp) (by decide) (by decide) rfl)
            show wpOp Try.prog _ _ 10 K (⟨#[_, _, _, _, _, _, _, _, _, _, _, _, _, _, _, _, _, _, _, _, _, _, _, _, _, _, _, _, _, _, _, _, _, _, _, _, _, _, _, _, _, _, _, _, _, _, _, _, _, _, _, _, _, _, _, _, _, _, _, x 0, x 1, x 2, x 3, x 4, x 5, x 6, x 7, x 8, .pointer (some ⟨b1, 0, none⟩), x 10, x 11, x 12, x 13, x 14, x 15, x 16, x 17, x 18, x 19, x 20, x 21, x 22, x 23, x 24, x 25, x 26, x 27, x 28, x 29, x 30, x 31, x 32, x 33, x 34, _, _, _, _, _, _, _, _, _, _, _, _, _, _, _, _, _, _, _, _, _, _, _, _, _, _, _, _, _, _, _, _, _, _, _, _, _, _, _, _, _, _, _, _, _, _, _, _, _, _, _, _, _, _, _, _, _, _, _, _, _, _, _, _, _, _, _, _, _, _, _, _, _, _, _, _, _, _, _, _, _, _, _, _, _, _, _, _, _, _, _, _, _, _, _, _, _, _, _, _, _, _, _, _, _, _, _, _, _, _, _, _, _, _, _, _, _, _, _, _, _, _, _, _, _, _, _, _, _, _, _, _, _, _, _, _, _, _, _, _, _, _, _, _, _, _, _, _, _, _, _, _, _, _, _, _, _, _, _, _, _, _, _, _, _, _, _, _, _, _, _, _, _, _, _, _, _, _], []⟩ : Act) v
            have qq := hc.2.1.2 0 _ rfl
            refine wpOp_step rfl (fun K' hK' => ?_)
            go_simp
            exact hK' _ _ (hK _ _ (Below.refl _ _) (at_of rfl rfl))
          · obtain ⟨x, rfl⟩ := upd_of (show x 8 = .int .i64 sh from hd 8 _ (by simp) (by decide) (by decide) rfl)
            obtain ⟨x, rfl⟩ := upd_of (show x 10 = .int .i64 sl from hd 10 _ (by simp) (by decide) (by decide) rfl)
            show wpOp Try.prog _ _ 11 K (⟨#[_, _, _, _, _, _, _, _, _, _, _, _, _, _, _, _, _, _, _, _, _, _, _, _, _, _, _, _, _, _, _, _, _, _, _, _, _, _, _, _, _, _, _, _, _, _, _, _, _, _, _, _, _, _, _, _, _, _, _, x 0, x 1, x 2, x 3, x 4, x 5, x 6, x 7, .int .i64 sh, x 9, .int .i64 sl, x 11, x 12, x 13, x 14, x 15, x 16, x 17, x 18, x 19, x 20, x 21, x 22, x 23, x 24, x 25, x 26, x 27, x 28, x 29, x 30, x 31, x 32, x 33, x 34, _, _, _, _, _, _, _, _, _, _, _, _, _, _, _, _, _, _, _, _, _, _, _, _, _, _, _, _, _, _, _, _, _, _, _, _, _, _, _, _, _, _, _, _, _, _, _, _, _, _, _, _, _, _, _, _, _, _, _, _, _, _, _, _, _, _, _, _, _, _, _, _, _, _, _, _, _, _, _, _, _, _, _, _, _, _, _, _, _, _, _, _, _, _, _, _, _, _, _, _, _, _, _, _, _, _, _, _, _, _, _, _, _, _, _, _, _, _, _, _, _, _, _, _, _, _, _, _, _, _, _, _, _, _, _, _, _, _, _, _, _, _, _, _, _, _, _, _, _, _, _, _, _, _, _, _, _, _, _, _, _, _, _, _, _, _, _, _, _, _, _, _, _, _, _, _, _, _], []⟩ : Act) v
            refine wpOp_step rfl (fun K' hK' => ?_)
            go_simp
            exact hK' _ _ (hK _ _ (Below.refl _ _) (at_of rfl rfl))
          · obtain ⟨x, rfl⟩ := upd_of (show x 6 = .int .i64 y0 from hd 6 _ (by simp) (by decide) (by decide) rfl)
            obtain ⟨x, rfl⟩ := upd_of (show x 11 = .int .i64 dS from hd 11 _ (by simp) (by decide) (by decide) rfl)
            show wpOp Try.prog _ _ 12 K (⟨#[_, _, _, _, _, _, _, _, _, _, _, _, _, _, _, _, _, _, _, _, _, _, _, _, _, _, _, _, _, _, _, _, _, _, _, _, _, _, _, _, _, _, _, _, _, _, _, _, _, _, _, _, _, _, _, _, _, _, _, x 0, x 1, x 2, x 3, x 4, x 5, .int .i64 y0, x 7, x 8, x 9, x 10, .int .i64 dS, x 12, x 13, x 14, x 15, x 16, x 17, x 18, x 19, x 20, x 21, x 22, x 23, x 24, x 25, x 26, x 27, x 28, x 29, x 30, x 31, x 32, x 33, x 34, _, _, _, _, _, _, _, _, _, _, _, _, _, _, _, _, _, _, _, _, _, _, _, _, _, _, _, _, _, _, _, _, _, _, _, _, _, _, _, _, _, _, _, _, _, _, _, _, _, _, _, _, _, _, _, _, _, _, _, _, _, _, _, _, _, _, _, _, _, _, _, _, _, _, _, _, _, _, _, _, _, _, _, _, _, _, _, _, _, _, _, _, _, _, _, _, _, _, _, _, _, _, _, _, _, _, _, _, _, _, _, _, _, _, _, _, _, _, _, _, _, _, _, _, _, _, _, _, _, _, _, _, _, _, _, _, _, _, _, _, _, _, _, _, _, _, _, _, _, _, _, _, _, _, _, _, _, _, _, _, _, _, _, _, _, _, _, _, _, _, _, _, _, _, _, _, _, _], []⟩ : Act) v
            refine wpOp_step rfl (fun K' hK' => ?_)
            go_simp
            exact hK' _ _ (hK _ _ (Below.refl _ _) (at_of rfl rfl))
          · obtain ⟨x, rfl⟩ := upd_of (show x 12 = .int .i64 m0 from hd 12 _ (by simp) (by decide) (by decide) rfl)
            show wpOp Try.prog _ _ 13 K (⟨#[_, _, _, _, _, _, _, _, _, _, _, _, _, _, _, _, _, _, _, _, _, _, _, _, _, _, _, _, _, _, _, _, _, _, _, _, _, _, _, _, _, _, _, _, _, _, _, _, _, _, _, _, _, _, _, _, _, _, _, x 0, x 1, x 2, x 3, x 4, x 5, x 6, x 7, x 8, x 9, x 10, x 11, .int .i64 m0, x 13, x 14, x 15, x 16, x 17, x 18, x 19, x 20, x 21, x 22, x 23, x 24, x 25, x 26, x 27, x 28, x 29, x 30, x 31, x 32, x 33, x 34, _, _, _, _, _, _, _, _, _, _, _, _, _, _, _, _, _, _, _, _, _, _, _, _, _, _, _, _, _, _, _, _, _, _, _, _, _, _, _, _, _, _, _, _, _, _, _, _, _, _, _, _, _, _, _, _, _, _, _, _, _, _, _, _, _, _, _, _, _, _, _, _, _, _, _, _, _, _, _, _, _, _, _, _, _, _, _, _, _, _, _, _, _, _, _, _, _, _, _, _, _, _, _, _, _, _, _, _, _, _, _, _, _, _, _, _, _, _, _, _, _, _, _, _, _, _, _, _, _, _, _, _, _, _, _, _, _, _, _, _, _, _, _, _, _, _, _, _, _, _, _, _, _, _, _, _, _, _, _, _, _, _, _, _, _, _, _, _, _, _, _, _, _, _, _, _, _, _], []⟩ : Act) v
            refine wpOp_step rfl (fun K' hK' => ?_)
            go_simp
            exact hK' _ _ (hK _ _ (Below.refl _ _) (at_of rfl rfl))
          · obtain ⟨x, rfl⟩ := upd_of (show x 2 = .int .i64 sl from hd 2 _ (by simp) (by decide) (by decide) rfl)
            obtain ⟨x, rfl⟩ := upd_of (show x 13 = .int .i64 v0 from hd 13 _ (by simp) (by decide) (by decide) rfl)
            show wpOp Try.prog _ _ 14 K (⟨#[_, _, _, _, _, _, _, _, _, _, _, _, _, _, _, _, _, _, _, _, _, _, _, _, _, _, _, _, _, _, _, _, _, _, _, _, _, _, _, _, _, _, _, _, _, _, _, _, _, _, _, _, _, _, _, _, _, _, _, x 0, x 1, .int .i64 sl, x 3, x 4, x 5, x 6, x 7, x 8, x 9, x 10, x 11, x 12, .int .i64 v0, x 14, x 15, x 16, x 17, x 18, x 19, x 20, x 21, x 22, x 23, x 24, x 25, x 26, x 27, x 28, x 29, x 30, x 31, x 32, x 33, x 34, _, _, _, _, _, _, _, _, _, _, _, _, _, _, _, _, _, _, _, _, _, _, _, _, _, _, _, _, _, _, _, _, _, _, _, _, _, _, _, _, _, _, _, _, _, _, _, _, _, _, _, _, _, _, _, _, _, _, _, _, _, _, _, _, _, _, _, _, _, _, _, _, _, _, _, _, _, _, _, _, _, _, _, _, _, _, _, _, _, _, _, _, _, _, _, _, _, _, _, _, _, _, _, _, _, _, _, _, _, _, _, _, _, _, _, _, _, _, _, _, _, _, _, _, _, _, _, _, _, _, _, _, _, _, _, _, _, _, _, _, _, _, _, _, _, _, _, _, _, _, _, _, _, _, _, _, _, _, _, _, _, _, _, _, _, _, _, _, _, _, _, _, _, _, _, _, _, _], []⟩ : Act) v
            refine wpOp_step rfl (fun K' hK' => ?_)
            go_simp
            exact hK' _ _ (hK _ _ (Below.refl _ _) (at_of rfl rfl))
          · obtain ⟨x, rfl⟩ := upd_of (show x 14 = .int .i64 sv from hd 14 _ (by simp) (by decide) (by decide) rfl)
            show wpOp Try.prog _ _ 15 K (⟨#[_, _, _, _, _, _, _, _, _, _, _, _, _, _, _, _, _, _, _, _, _, _, _, _, _, _, _, _, _, _, _, _, _, _, _, _, _, _, _, _, _, _, _, _, _, _, _, _, _, _, _, _, _, _, _, _, _, _, _, x 0, x 1, x 2, x 3, x 4, x 5, x 6, x 7, x 8, x 9, x 10, x 11, x 12, x 13, .int .i64 sv, x 15, x 16, x 17, x 18, x 19, x 20, x 21, x 22, x 23, x 24, x 25, x 26, x 27, x 28, x 29, x 30, x 31, x 32, x 33, x 34, _, _, _, _, _, _, _, _, _, _, _, _, _, _, _, _, _, _, _, _, _, _, _, _, _, _, _, _, _, _, _, _, _, _, _, _, _, _, _, _, _, _, _, _, _, _, _, _, _, _, _, _, _, _, _, _, _, _, _, _, _, _, _, _, _, _, _, _, _, _, _, _, _, _, _, _, _, _, _, _, _, _, _, _, _, _, _, _, _, _, _, _, _, _, _, _, _, _, _, _, _, _, _, _, _, _, _, _, _, _, _, _, _, _, _, _, _, _, _, _, _, _, _, _, _, _, _, _, _, _, _, _, _, _, _, _, _, _, _, _, _, _, _, _, _, _, _, _, _, _, _, _, _, _, _, _, _, _, _, _, _, _, _, _, _, _, _, _, _, _, _, _, _, _, _, _, _, _], []⟩ : Act) v
            refine wpOp_step rfl (fun K' hK' => ?_)
            go_simp
            have gA := Gr.al v (.cells (List.toArray [.int .i64 sv]) 3)
            exact hK' _ _ (hK _ _ gA (at_of rfl ⟨v.heap.size, rfl, Nat.le_trans (Nat.le_trans h1 (Nat.le_of_lt hc.2.1.1)) (Nat.le_refl _), Box.new v [.int .i64 sv] 3 v.heap.size rfl⟩))
          · show wpOp Try.prog _ _ 17 K (⟨#[_, _, _, _, _, _, _, _, _, _, _, _, _, _, _, _, _, _, _, _, _, _, _, _, _, _, _, _, _, _, _, _, _, _, _, _, _, _, _, _, _, _, _, _, _, _, _, _, _, _, _, _, _, _, _, _, _, _, _, x 0, x 1, x 2, x 3, x 4, x 5, x 6, x 7, x 8, x 9, x 10, x 11, x 12, x 13, x 14, x 15, x 16, x 17, x 18, x 19, x 20, x 21, x 22, x 23, x 24, x 25, x 26, x 27, x 28, x 29, x 30, x 31, x 32, x 33, x 34, _, _, _, _, _, _, _, _, _, _, _, _, _, _, _, _, _, _, _, _, _, _, _, _, _, _, _, _, _, _, _, _, _, _, _, _, _, _, _, _, _, _, _, _, _, _, _, _, _, _, _, _, _, _, _, _, _, _, _, _, _, _, _, _, _, _, _, _, _, _, _, _, _, _, _, _, _, _, _, _, _, _, _, _, _, _, _, _, _, _, _, _, _, _, _, _, _, _, _, _, _, _, _, _, _, _, _, _, _, _, _, _, _, _, _, _, _, _, _, _, _, _, _, _, _, _, _, _, _, _, _, _, _, _, _, _, _, _, _, _, _, _, _, _, _, _, _, _, _, _, _, _, _, _, _, _, _, _, _, _, _, _, _, _, _, _, _, _, _, _, _, _, _, _, _, _, _, _], []⟩ : Act) v
            refine wpOp_step rfl (fun K' hK' => ?_)
            go_simp
            exact hK' _ _ (hK _ _ (Below.refl _ _) (at_of rfl rfl))
          · show wpOp Try.prog _ _ 18 K (⟨#[_, _, _, _, _, _, _, _, _, _, _, _, _, _, _, _, _, _, _, _, _, _, _, _, _, _, _, _, _, _, _, _, _, _, _, _, _, _, _, _, _, _, _, _, _, _, _, _, _, _, _, _, _, _, _, _, _, _, _, x 0, x 1, x 2, x 3, x 4, x 5, x 6, x 7, x 8, x 9, x 10, x 11, x 12, x 13, x 14, x 15, x 16, x 17, x 18, x 19, x 20, x 21, x 22, x 23, x 24, x 25, x 26, x 27, x 28, x 29, x 30, x 31, x 32, x 33, x 34, _, _, _, _, _, _, _, _, _, _, _, _, _, _, _, _, _, _, _, _, _, _, _, _, _, _, _, _, _, _, _, _, _, _, _, _, _, _, _, _, _, _, _, _, _, _, _, _, _, _, _, _, _, _, _, _, _, _, _, _, _, _, _, _, _, _, _, _, _, _, _, _, _, _, _, _, _, _, _, _, _, _, _, _, _, _, _, _, _, _, _, _, _, _, _, _, _, _, _, _, _, _, _, _, _, _, _, _, _, _, _, _, _, _, _, _, _, _, _, _, _, _, _, _, _, _, _, _, _, _, _, _, _, _, _, _, _, _, _, _, _, _, _, _, _, _, _, _, _, _, _, _, _, _, _, _, _, _, _, _, _, _, _, _, _, _, _, _, _, _, _, _, _, _, _, _, _, _], []⟩ : Act) v
            refine wpOp_step rfl (fun K' hK' => ?_)
            go_simp
            exact hK' _ _ (hK _ _ (Below.refl _ _) (at_of rfl rfl))
          · obtain ⟨x, rfl⟩ := upd_of (show x 18 = .pointer (some ⟨b2, 0, none⟩) from hd 18 _ (by simp) (by decide) (by decide) rfl)
            show wpOp Try.prog _ _ 19 K (⟨#[_, _, _, _, _, _, _, _, _, _, _, _, _, _, _, _, _, _, _, _, _, _, _, _, _, _, _, _, _, _, _, _, _, _, _, _, _, _, _, _, _, _, _, _, _, _, _, _, _, _, _, _, _, _, _, _, _, _, _, x 0, x 1, x 2, x 3, x 4, x 5, x 6, x 7, x 8, x 9, x 10, x 11, x 12, x 13, x 14, x 15, x 16, x 17, .pointer (some ⟨b2, 0, none⟩), x 19, x 20, x 21, x 22, x 23, x 24, x 25, x 26, x 27, x 28, x 29, x 30, x 31, x 32, x 33, x 34, _, _, _, _, _, _, _, _, _, _, _, _, _, _, _, _, _, _, _, _, _, _, _, _, _, _, _, _, _, _, _, _, _, _, _, _, _, _, _, _, _, _, _, _, _, _, _, _, _, _, _, _, _, _, _, _, _, _, _, _, _, _, _, _, _, _, _, _, _, _, _, _, _, _, _, _, _, _, _, _, _, _, _, _, _, _, _, _, _, _, _, _, _, _, _, _, _, _, _, _, _, _, _, _, _, _, _, _, _, _, _, _, _, _, _, _, _, _, _, _, _, _, _, _, _, _, _, _, _, _, _, _, _, _, _, _, _, _, _, _, _, _, _, _, _, _, _, _, _, _, _, _, _, _, _, _, _, _, _, _, _, _, _, _, _, _, _, _, _, _, _, _, _, _, _, _, _, _], []⟩ : Act) v
            have qq := hc.2.2.2 0 _ rfl
            refine wpOp_step rfl (fun K' hK' => ?_)
            go_simp
            exact hK' _ _ (hK _ _ (Below.refl _ _) (at_of rfl rfl))
          · show wpOp Try.prog _ _ 20 K (⟨#[_, _, _, _, _, _, _, _, _, _, _, _, _, _, _, _, _, _, _, _, _, _, _, _, _, _, _, _, _, _, _, _, _, _, _, _, _, _, _, _, _, _, _, _, _, _, _, _, _, _, _, _, _, _, _, _, _, _, _, x 0, x 1, x 2, x 3, x 4, x 5, x 6, x 7, x 8, x 9, x 10, x 11, x 12, x 13, x 14, x 15, x 16, x 17, x 18, x 19, x 20, x 21, x 22, x 23, x 24, x 25, x 26, x 27, x 28, x 29, x 30, x 31, x 32, x 33, x 34, _, _, _, _, _, _, _, _, _, _, _, _, _, _, _, _, _, _, _, _, _, _, _, _, _, _, _, _, _, _, _, _, _, _, _, _, _, _, _, _, _, _, _, _, _, _, _, _, _, _, _, _, _, _, _, _, _, _, _, _, _, _, _, _, _, _, _, _, _, _, _, _, _, _, _, _, _, _, _, _, _, _, _, _, _, _, _, _, _, _, _, _, _, _, _, _, _, _, _, _, _, _, _, _, _, _, _, _, _, _, _, _, _, _, _, _, _, _, _, _, _, _, _, _, _, _, _, _, _, _, _, _, _, _, _, _, _, _, _, _, _, _, _, _, _, _, _, _, _, _, _, _, _, _, _, _, _, _, _, _, _, _, _, _, _, _, _, _, _, _, _, _, _, _, _, _, _, _], []⟩ : Act) v
            refine wpOp_step rfl (fun K' hK' => ?_)
            go_simp
            exact hK' _ _ (hK _ _ (Below.refl _ _) (at_of rfl rfl))
          · show wpOp Try.prog _ _ 21 K (⟨#[_, _, _, _, _, _, _, _, _, _, _, _, _, _, _, _, _, _, _, _, _, _, _, _, _, _, _, _, _, _, _, _, _, _, _, _, _, _, _, _, _, _, _, _, _, _, _, _, _, _, _, _, _, _, _, _, _, _, _, x 0, x 1, x 2, x 3, x 4, x 5, x 6, x 7, x 8, x 9, x 10, x 11, x 12, x 13, x 14, x 15, x 16, x 17, x 18, x 19, x 20, x 21, x 22, x 23, x 24, x 25, x 26, x 27, x 28, x 29, x 30, x 31, x 32, x 33, x 34, _, _, _, _, _, _, _, _, _, _, _, _, _, _, _, _, _, _, _, _, _, _, _, _, _, _, _, _, _, _, _, _, _, _, _, _, _, _, _, _, _, _, _, _, _, _, _, _, _, _, _, _, _, _, _, _, _, _, _, _, _, _, _, _, _, _, _, _, _, _, _, _, _, _, _, _, _, _, _, _, _, _, _, _, _, _, _, _, _, _, _, _, _, _, _, _, _, _, _, _, _, _, _, _, _, _, _, _, _, _, _, _, _, _, _, _, _, _, _, _, _, _, _, _, _, _, _, _, _, _, _, _, _, _, _, _, _, _, _, _, _, _, _, _, _, _, _, _, _, _, _, _, _, _, _, _, _, _, _, _, _, _, _, _, _, _, _, _, _, _, _, _, _, _, _, _, _, _], []⟩ : Act) v
            refine wpOp_step rfl (fun K' hK' => ?_)
            go_simp
            exact hK' _ _ (hK _ _ (Below.refl _ _) (at_of rfl rfl))
          · obtain ⟨x, rfl⟩ := upd_of (show x 21 = .int .i64 (k : Int) from hd 21 _ (by simp) (by decide) (by decide) rfl)
            show wpOp Try.prog _ _ 22 K (⟨#[_, _, _, _, _, _, _, _, _, _, _, _, _, _, _, _, _, _, _, _, _, _, _, _, _, _, _, _, _, _, _, _, _, _, _, _, _, _, _, _, _, _, _, _, _, _, _, _, _, _, _, _, _, _, _, _, _, _, _, x 0, x 1, x 2, x 3, x 4, x 5, x 6, x 7, x 8, x 9, x 10, x 11, x 12, x 13, x 14, x 15, x 16, x 17, x 18, x 19, x 20, .int .i64 (k : Int), x 22, x 23, x 24, x 25, x 26, x 27, x 28, x 29, x 30, x 31, x 32, x 33, x 34, _, _, _, _, _, _, _, _, _, _, _, _, _, _, _, _, _, _, _, _, _, _, _, _, _, _, _, _, _, _, _, _, _, _, _, _, _, _, _, _, _, _, _, _, _, _, _, _, _, _, _, _, _, _, _, _, _, _, _, _, _, _, _, _, _, _, _, _, _, _, _, _, _, _, _, _, _, _, _, _, _, _, _, _, _, _, _, _, _, _, _, _, _, _, _, _, _, _, _, _, _, _, _, _, _, _, _, _, _, _, _, _, _, _, _, _, _, _, _, _, _, _, _, _, _, _, _, _, _, _, _, _, _, _, _, _, _, _, _, _, _, _, _, _, _, _, _, _, _, _, _, _, _, _, _, _, _, _, _, _, _, _, _, _, _, _, _, _, _, _, _, _, _, _, _, _, _, _], []⟩ : Act) v
            refine wpOp_step rfl (fun K' hK' => ?_)
            go_simp
            exact hK' _ _ (hK _ _ (Below.refl _ _) (at_of rfl rfl))
          · obtain ⟨x, rfl⟩ := upd_of (show x 22 = .int .i64 (K2 : Int) from hd 22 _ (by simp) (by decide) (by decide) rfl)
            show wpOp Try.prog _ _ 23 K (⟨#[_, _, _, _, _, _, _, _, _, _, _, _, _, _, _, _, _, _, _, _, _, _, _, _, _, _, _, _, _, _, _, _, _, _, _, _, _, _, _, _, _, _, _, _, _, _, _, _, _, _, _, _, _, _, _, _, _, _, _, x 0, x 1, x 2, x 3, x 4, x 5, x 6, x 7, x 8, x 9, x 10, x 11, x 12, x 13, x 14, x 15, x 16, x 17, x 18, x 19, x 20, x 21, .int .i64 (K2 : Int), x 23, x 24, x 25, x 26, x 27, x 28, x 29, x 30, x 31, x 32, x 33, x 34, _, _, _, _, _, _, _, _, _, _, _, _, _, _, _, _, _, _, _, _, _, _, _, _, _, _, _, _, _, _, _, _, _, _, _, _, _, _, _, _, _, _, _, _, _, _, _, _, _, _, _, _, _, _, _, _, _, _, _, _, _, _, _, _, _, _, _, _, _, _, _, _, _, _, _, _, _, _, _, _, _, _, _, _, _, _, _, _, _, _, _, _, _, _, _, _, _, _, _, _, _, _, _, _, _, _, _, _, _, _, _, _, _, _, _, _, _, _, _, _, _, _, _, _, _, _, _, _, _, _, _, _, _, _, _, _, _, _, _, _, _, _, _, _, _, _, _, _, _, _, _, _, _, _, _, _, _, _, _, _, _, _, _, _, _, _, _, _, _, _, _, _, _, _, _, _, _, _], []⟩ : Act) v
            refine wpOp_step rfl (fun K' hK' => ?_)
            go_simp
            exact hK' _ _ (hK _ _ (Below.refl _ _) (at_of rfl rfl))
          · obtain ⟨x, rfl⟩ := upd_of (show x 20 = .slice ya Y.length yc from hd 20 _ (by simp) (by decide) (by decide) rfl)
            obtain ⟨x, rfl⟩ := upd_of (show x 23 = .int .i64 (K3 : Int) from hd 23 _ (by simp) (by decide) (by decide) rfl)
            show wpOp Try.prog _ _ 24 K (⟨#[_, _, _, _, _, _, _, _, _, _, _, _, _, _, _, _, _, _, _, _, _, _, _, _, _, _, _, _, _, _, _, _, _, _, _, _, _, _, _, _, _, _, _, _, _, _, _, _, _, _, _, _, _, _, _, _, _, _, _, x 0, x 1, x 2, x 3, x 4, x 5, x 6, x 7, x 8, x 9, x 10, x 11, x 12, x 13, x 14, x 15, x 16, x 17, x 18, x 19, .slice ya Y.length yc, x 21, x 22, .int .i64 (K3 : Int), x 24, x 25, x 26, x 27, x 28, x 29, x 30, x 31, x 32, x 33, x 34, _, _, _, _, _, _, _, _, _, _, _, _, _, _, _, _, _, _, _, _, _, _, _, _, _, _, _, _, _, _, _, _, _, _, _, _, _, _, _, _, _, _, _, _, _, _, _, _, _, _, _, _, _, _, _, _, _, _, _, _, _, _, _, _, _, _, _, _, _, _, _, _, _, _, _, _, _, _, _, _, _, _, _, _, _, _, _, _, _, _, _, _, _, _, _, _, _, _, _, _, _, _, _, _, _, _, _, _, _, _, _, _, _, _, _, _, _, _, _, _, _, _, _, _, _, _, _, _, _, _, _, _, _, _, _, _, _, _, _, _, _, _, _, _, _, _, _, _, _, _, _, _, _, _, _, _, _, _, _, _, _, _, _, _, _, _, _, _, _, _, _, _, _, _, _, _, _, _], []⟩ : Act) v
            refine wpOp_step rfl (fun K' hK' => ?_)
            go_simp
            refine (HB2.out v hc.1).mono ?_
            rintro e v' ⟨rfl, hg⟩
            exact hK' _ _ (hK _ _ hg (at_of rfl rfl))
          · show wpOp Try.prog _ _ 25 K (⟨#[_, _, _, _, _, _, _, _, _, _, _, _, _, _, _, _, _, _, _, _, _, _, _, _, _, _, _, _, _, _, _, _, _, _, _, _, _, _, _, _, _, _, _, _, _, _, _, _, _, _, _, _, _, _, _, _, _, _, _, x 0, x 1, x 2, x 3, x 4, x 5, x 6, x 7, x 8, x 9, x 10, x 11, x 12, x 13, x 14, x 15, x 16, x 17, x 18, x 19, x 20, x 21, x 22, x 23, x 24, x 25, x 26, x 27, x 28, x 29, x 30, x 31, x 32, x 33, x 34, _, _, _, _, _, _, _, _, _, _, _, _, _, _, _, _, _, _, _, _, _, _, _, _, _, _, _, _, _, _, _, _, _, _, _, _, _, _, _, _, _, _, _, _, _, _, _, _, _, _, _, _, _, _, _, _, _, _, _, _, _, _, _, _, _, _, _, _, _, _, _, _, _, _, _, _, _, _, _, _, _, _, _, _, _, _, _, _, _, _, _, _, _, _, _, _, _, _, _, _, _, _, _, _, _, _, _, _, _, _, _, _, _, _, _, _, _, _, _, _, _, _, _, _, _, _, _, _, _, _, _, _, _, _, _, _, _, _, _, _, _, _, _, _, _, _, _, _, _, _, _, _, _, _, _, _, _, _, _, _, _, _, _, _, _, _, _, _, _, _, _, _, _, _, _, _, _, _], []⟩ : Act) v
            refine wpOp_step rfl (fun K' hK' => ?_)
            go_simp
            exact hK' _ _ (hK _ _ (Below.refl _ _) (at_of rfl rfl))
          · obtain ⟨x, rfl⟩ := upd_of (show x 25 = .pointer (some ⟨b2, 1, none⟩) from hd 25 _ (by simp) (by decide) (by decide) rfl)
            show wpOp Try.prog _ _ 26 K (⟨#[_, _, _, _, _, _, _, _, _, _, _, _, _, _, _, _, _, _, _, _, _, _, _, _, _, _, _, _, _, _, _, _, _, _, _, _, _, _, _, _, _, _, _, _, _, _, _, _, _, _, _, _, _, _, _, _, _, _, _, x 0, x 1, x 2, x 3, x 4, x 5, x 6, x 7, x 8, x 9, x 10, x 11, x 12, x 13, x 14, x 15, x 16, x 17, x 18, x 19, x 20, x 21, x 22, x 23, x 24, .pointer (some ⟨b2, 1, none⟩), x 26, x 27, x 28, x 29, x 30, x 31, x 32, x 33, x 34, _, _, _, _, _, _, _, _, _, _, _, _, _, _, _, _, _, _, _, _, _, _, _, _, _, _, _, _, _, _, _, _, _, _, _, _, _, _, _, _, _, _, _, _, _, _, _, _, _, _, _, _, _, _, _, _, _, _, _, _, _, _, _, _, _, _, _, _, _, _, _, _, _, _, _, _, _, _, _, _, _, _, _, _, _, _, _, _, _, _, _, _, _, _, _, _, _, _, _, _, _, _, _, _, _, _, _, _, _, _, _, _, _, _, _, _, _, _, _, _, _, _, _, _, _, _, _, _, _, _, _, _, _, _, _, _, _, _, _, _, _, _, _, _, _, _, _, _, _, _, _, _, _, _, _, _, _, _, _, _, _, _, _, _, _, _, _, _, _, _, _, _, _, _, _, _, _, _], []⟩ : Act) v
            have qq := hc.2.2.2 1 _ rfl
            refine wpOp_step rfl (fun K' hK' => ?_)
            go_simp
            exact hK' _ _ (hK _ _ (Below.refl _ _) (at_of rfl rfl))
          · show wpOp Try.prog _ _ 27 K (⟨#[_, _, _, _, _, _, _, _, _, _, _, _, _, _, _, _, _, _, _, _, _, _, _, _, _, _, _, _, _, _, _, _, _, _, _, _, _, _, _, _, _, _, _, _, _, _, _, _, _, _, _, _, _, _, _, _, _, _, _, x 0, x 1, x 2, x 3, x 4, x 5, x 6, x 7, x 8, x 9, x 10, x 11, x 12, x 13, x 14, x 15, x 16, x 17, x 18, x 19, x 20, x 21, x 22, x 23, x 24, x 25, x 26, x 27, x 28, x 29, x 30, x 31, x 32, x 33, x 34, _, _, _, _, _, _, _, _, _, _, _, _, _, _, _, _, _, _, _, _, _, _, _, _, _, _, _, _, _, _, _, _, _, _, _, _, _, _, _, _, _, _, _, _, _, _, _, _, _, _, _, _, _, _, _, _, _, _, _, _, _, _, _, _, _, _, _, _, _, _, _, _, _, _, _, _, _, _, _, _, _, _, _, _, _, _, _, _, _, _, _, _, _, _, _, _, _, _, _, _, _, _, _, _, _, _, _, _, _, _, _, _, _, _, _, _, _, _, _, _, _, _, _, _, _, _, _, _, _, _, _, _, _, _, _, _, _, _, _, _, _, _, _, _, _, _, _, _, _, _, _, _, _, _, _, _, _, _, _, _, _, _, _, _, _, _, _, _, _, _, _, _, _, _, _, _, _, _], []⟩ : Act) v
            refine wpOp_step rfl (fun K' hK' => ?_)
            go_simp
            exact hK' _ _ (hK _ _ (Below.refl _ _) (at_of rfl rfl))
          · obtain ⟨x, rfl⟩ := upd_of (show x 27 = .pointer (some ⟨b2, 0, none⟩) from hd 27 _ (by simp) (by decide) (by decide) rfl)
            show wpOp Try.prog _ _ 28 K (⟨#[_, _, _, _, _, _, _, _, _, _, _, _, _, _, _, _, _, _, _, _, _, _, _, _, _, _, _, _, _, _, _, _, _, _, _, _, _, _, _, _, _, _, _, _, _, _, _, _, _, _, _, _, _, _, _, _, _, _, _, x 0, x 1, x 2, x 3, x 4, x 5, x 6, x 7, x 8, x 9, x 10, x 11, x 12, x 13, x 14, x 15, x 16, x 17, x 18, x 19, x 20, x 21, x 22, x 23, x 24, x 25, x 26, .pointer (some ⟨b2, 0, none⟩), x 28, x 29, x 30, x 31, x 32, x 33, x 34, _, _, _, _, _, _, _, _, _, _, _, _, _, _, _, _, _, _, _, _, _, _, _, _, _, _, _, _, _, _, _, _, _, _, _, _, _, _, _, _, _, _, _, _, _, _, _, _, _, _, _, _, _, _, _, _, _, _, _, _, _, _, _, _, _, _, _, _, _, _, _, _, _, _, _, _, _, _, _, _, _, _, _, _, _, _, _, _, _, _, _, _, _, _, _, _, _, _, _, _, _, _, _, _, _, _, _, _, _, _, _, _, _, _, _, _, _, _, _, _, _, _, _, _, _, _, _, _, _, _, _, _, _, _, _, _, _, _, _, _, _, _, _, _, _, _, _, _, _, _, _, _, _, _, _, _, _, _, _, _, _, _, _, _, _, _, _, _, _, _, _, _, _, _, _, _, _, _], []⟩ : Act) v
            have qq := hc.2.2.2 0 _ rfl
            refine wpOp_step rfl (fun K' hK' => ?_)
            go_simp
            exact hK' _ _ (hK _ _ (Below.refl _ _) (at_of rfl rfl))
          · obtain ⟨x, rfl⟩ := upd_of (show x 26 = .int .i64 wh from hd 26 _ (by simp) (by decide) (by decide) rfl)
            obtain ⟨x, rfl⟩ := upd_of (show x 28 = .int .i64 wl from hd 28 _ (by simp) (by decide) (by decide) rfl)
            show wpOp Try.prog _ _ 29 K (⟨#[_, _, _, _, _, _, _, _, _, _, _, _, _, _, _, _, _, _, _, _, _, _, _, _, _, _, _, _, _, _, _, _, _, _, _, _, _, _, _, _, _, _, _, _, _, _, _, _, _, _, _, _, _, _, _, _, _, _, _, x 0, x 1, x 2, x 3, x 4, x 5, x 6, x 7, x 8, x 9, x 10, x 11, x 12, x 13, x 14, x 15, x 16, x 17, x 18, x 19, x 20, x 21, x 22, x 23, x 24, x 25, .int .i64 wh, x 27, .int .i64 wl, x 29, x 30, x 31, x 32, x 33, x 34, _, _, _, _, _, _, _, _, _, _, _, _, _, _, _, _, _, _, _, _, _, _, _, _, _, _, _, _, _, _, _, _, _, _, _, _, _, _, _, _, _, _, _, _, _, _, _, _, _, _, _, _, _, _, _, _, _, _, _, _, _, _, _, _, _, _, _, _, _, _, _, _, _, _, _, _, _, _, _, _, _, _, _, _, _, _, _, _, _, _, _, _, _, _, _, _, _, _, _, _, _, _, _, _, _, _, _, _, _, _, _, _, _, _, _, _, _, _, _, _, _, _, _, _, _, _, _, _, _, _, _, _, _, _, _, _, _, _, _, _, _, _, _, _, _, _, _, _, _, _, _, _, _, _, _, _, _, _, _, _, _, _, _, _, _, _, _, _, _, _, _, _, _, _, _, _, _, _], []⟩ : Act) v
            refine wpOp_step rfl (fun K' hK' => ?_)
            go_simp
            exact hK' _ _ (hK _ _ (Below.refl _ _) (at_of rfl rfl))
          · obtain ⟨x, rfl⟩ := upd_of (show x 24 = .int .i64 y1 from hd 24 _ (by simp) (by decide) (by decide) rfl)
            obtain ⟨x, rfl⟩ := upd_of (show x 29 = .int .i64 dW from hd 29 _ (by simp) (by decide) (by decide) rfl)
            show wpOp Try.prog _ _ 30 K (⟨#[_, _, _, _, _, _, _, _, _, _, _, _, _, _, _, _, _, _, _, _, _, _, _, _, _, _, _, _, _, _, _, _, _, _, _, _, _, _, _, _, _, _, _, _, _, _, _, _, _, _, _, _, _, _, _, _, _, _, _, x 0, x 1, x 2, x 3, x 4, x 5, x 6, x 7, x 8, x 9, x 10, x 11, x 12, x 13, x 14, x 15, x 16, x 17, x 18, x 19, x 20, x 21, x 22, x 23, .int .i64 y1, x 25, x 26, x 27, x 28, .int .i64 dW, x 30, x 31, x 32, x 33, x 34, _, _, _, _, _, _, _, _, _, _, _, _, _, _, _, _, _, _, _, _, _, _, _, _, _, _, _, _, _, _, _, _, _, _, _, _, _, _, _, _, _, _, _, _, _, _, _, _, _, _, _, _, _, _, _, _, _, _, _, _, _, _, _, _, _, _, _, _, _, _, _, _, _, _, _, _, _, _, _, _, _, _, _, _, _, _, _, _, _, _, _, _, _, _, _, _, _, _, _, _, _, _, _, _, _, _, _, _, _, _, _, _, _, _, _, _, _, _, _, _, _, _, _, _, _, _, _, _, _, _, _, _, _, _, _, _, _, _, _, _, _, _, _, _, _, _, _, _, _, _, _, _, _, _, _, _, _, _, _, _, _, _, _, _, _, _, _, _, _, _, _, _, _, _, _, _, _, _], []⟩ : Act) v
            refine wpOp_step rfl (fun K' hK' => ?_)
            go_simp
            exact hK' _ _ (hK _ _ (Below.refl _ _) (at_of rfl rfl))
          · obtain ⟨x, rfl⟩ := upd_of (show x 30 = .int .i64 m1 from hd 30 _ (by simp) (by decide) (by decide) rfl)
            show wpOp Try.prog _ _ 31 K (⟨#[_, _, _, _, _, _, _, _, _, _, _, _, _, _, _, _, _, _, _, _, _, _, _, _, _, _, _, _, _, _, _, _, _, _, _, _, _, _, _, _, _, _, _, _, _, _, _, _, _, _, _, _, _, _, _, _, _, _, _, x 0, x 1, x 2, x 3, x 4, x 5, x 6, x 7, x 8, x 9, x 10, x 11, x 12, x 13, x 14, x 15, x 16, x 17, x 18, x 19, x 20, x 21, x 22, x 23, x 24, x 25, x 26, x 27, x 28, x 29, .int .i64 m1, x 31, x 32, x 33, x 34, _, _, _, _, _, _, _, _, _, _, _, _, _, _, _, _, _, _, _, _, _, _, _, _, _, _, _, _, _, _, _, _, _, _, _, _, _, _, _, _, _, _, _, _, _, _, _, _, _, _, _, _, _, _, _, _, _, _, _, _, _, _, _, _, _, _, _, _, _, _, _, _, _, _, _, _, _, _, _, _, _, _, _, _, _, _, _, _, _, _, _, _, _, _, _, _, _, _, _, _, _, _, _, _, _, _, _, _, _, _, _, _, _, _, _, _, _, _, _, _, _, _, _, _, _, _, _, _, _, _, _, _, _, _, _, _, _, _, _, _, _, _, _, _, _, _, _, _, _, _, _, _, _, _, _, _, _, _, _, _, _, _, _, _, _, _, _, _, _, _, _, _, _, _, _, _, _, _], []⟩ : Act) v
            refine wpOp_step rfl (fun K' hK' => ?_)
            go_simp
            exact hK' _ _ (hK _ _ (Below.refl _ _) (at_of rfl rfl))
          · obtain ⟨x, rfl⟩ := upd_of (show x 19 = .int .i64 wl from hd 19 _ (by simp) (by decide) (by decide) rfl)
            obtain ⟨x, rfl⟩ := upd_of (show x 31 = .int .i64 v1 from hd 31 _ (by simp) (by decide) (by decide) rfl)
            show wpOp Try.prog _ _ 32 K (⟨#[_, _, _, _, _, _, _, _, _, _, _, _, _, _, _, _, _, _, _, _, _, _, _, _, _, _, _, _, _, _, _, _, _, _, _, _, _, _, _, _, _, _, _, _, _, _, _, _, _, _, _, _, _, _, _, _, _, _, _, x 0, x 1, x 2, x 3, x 4, x 5, x 6, x 7, x 8, x 9, x 10, x 11, x 12, x 13, x 14, x 15, x 16, x 17, x 18, .int .i64 wl, x 20, x 21, x 22, x 23, x 24, x 25, x 26, x 27, x 28, x 29, x 30, .int .i64 v1, x 32, x 33, x 34, _, _, _, _, _, _, _, _, _, _, _, _, _, _, _, _, _, _, _, _, _, _, _, _, _, _, _, _, _, _, _, _, _, _, _, _, _, _, _, _, _, _, _, _, _, _, _, _, _, _, _, _, _, _, _, _, _, _, _, _, _, _, _, _, _, _, _, _, _, _, _, _, _, _, _, _, _, _, _, _, _, _, _, _, _, _, _, _, _, _, _, _, _, _, _, _, _, _, _, _, _, _, _, _, _, _, _, _, _, _, _, _, _, _, _, _, _, _, _, _, _, _, _, _, _, _, _, _, _, _, _, _, _, _, _, _, _, _, _, _, _, _, _, _, _, _, _, _, _, _, _, _, _, _, _, _, _, _, _, _, _, _, _, _, _, _, _, _, _, _, _, _, _, _, _, _, _, _], []⟩ : Act) v
            refine wpOp_step rfl (fun K' hK' => ?_)
            go_simp
            exact hK' _ _ (hK _ _ (Below.refl _ _) (at_of rfl rfl))
          · obtain ⟨x, rfl⟩ := upd_of (show x 32 = .int .i64 hv from hd 32 _ (by simp) (by decide) (by decide) rfl)
            show wpOp Try.prog _ _ 33 K (⟨#[_, _, _, _, _, _, _, _, _, _, _, _, _, _, _, _, _, _, _, _, _, _, _, _, _, _, _, _, _, _, _, _, _, _, _, _, _, _, _, _, _, _, _, _, _, _, _, _, _, _, _, _, _, _, _, _, _, _, _, x 0, x 1, x 2, x 3, x 4, x 5, x 6, x 7, x 8, x 9, x 10, x 11, x 12, x 13, x 14, x 15, x 16, x 17, x 18, x 19, x 20, x 21, x 22, x 23, x 24, x 25, x 26, x 27, x 28, x 29, x 30, x 31, .int .i64 hv, x 33, x 34, _, _, _, _, _, _, _, _, _, _, _, _, _, _, _, _, _, _, _, _, _, _, _, _, _, _, _, _, _, _, _, _, _, _, _, _, _, _, _, _, _, _, _, _, _, _, _, _, _, _, _, _, _, _, _, _, _, _, _, _, _, _, _, _, _, _, _, _, _, _, _, _, _, _, _, _, _, _, _, _, _, _, _, _, _, _, _, _, _, _, _, _, _, _, _, _, _, _, _, _, _, _, _, _, _, _, _, _, _, _, _, _, _, _, _, _, _, _, _, _, _, _, _, _, _, _, _, _, _, _, _, _, _, _, _, _, _, _, _, _, _, _, _, _, _, _, _, _, _, _, _, _, _, _, _, _, _, _, _, _, _, _, _, _, _, _, _, _, _, _, _, _, _, _, _, _, _, _], []⟩ : Act) v
            refine wpOp_step rfl (fun K' hK' => ?_)
            go_simp
            have gA := Gr.al v (.cells (List.toArray [.int .i64 hv]) 3)
            exact hK' _ _ (hK _ _ gA (at_of rfl ⟨v.heap.size, rfl, Nat.le_trans (Nat.le_trans h1 (Nat.le_of_lt hc.2.1.1)) (Nat.le_refl _), Box.new v [.int .i64 hv] 3 v.heap.size rfl⟩))
        case pp7 =>
          rintro x v hc hs hd K hK
          obtain ⟨x, rfl⟩ := upd_of (show x 0 = u9 from hd 0 _ (by simp) (by decide) (by decide) rfl)
          obtain ⟨w15, e15, hw15, hx15⟩ := hd 15 _ (by simp) (by decide) (by decide) rfl
          obtain ⟨x, rfl⟩ := upd_of (show x 15 = .slice (some ⟨w15, 0, none⟩) 1 1 from e15)
          show wpOp Try.prog _ _ 16 K (⟨#[_, _, _, _, _, _, _, _, _, _, _, _, _, _, _, _, _, _, _, _, _, _, _, _, _, _, _, _, _, _, _, _, _, _, _, _, _, _, _, _, _, _, _, _, _, _, _, _, _, _, _, _, _, _, _, _, _, _, _, u9, x 1, x 2, x 3, x 4, x 5, x 6, x 7, x 8, x 9, x 10, x 11, x 12, x 13, x 14, .slice (some ⟨w15, 0, none⟩) 1 1, x 16, x 17, x 18, x 19, x 20, x 21, x 22, x 23, x 24, x 25, x 26, x 27, x 28, x 29, x 30, x 31, x 32, x 33, x 34, _, _, _, _, _, _, _, _, _, _, _, _, _, _, _, _, _, _, _, _, _, _, _, _, _, _, _, _, _, _, _, _, _, _, _, _, _, _, _, _, _, _, _, _, _, _, _, _, _, _, _, _, _, _, _, _, _, _, _, _, _, _, _, _, _, _, _, _, _, _, _, _, _, _, _, _, _, _, _, _, _, _, _, _, _, _, _, _, _, _, _, _, _, _, _, _, _, _, _, _, _, _, _, _, _, _, _, _, _, _, _, _, _, _, _, _, _, _, _, _, _, _, _, _, _, _, _, _, _, _, _, _, _, _, _, _, _, _, _, _, _, _, _, _, _, _, _, _, _, _, _, _, _, _, _, _, _, _, _, _, _, _, _, _, _, _, _, _, _, _, _, _, _, _, _, _, _, _], []⟩ : Act) v
          have hs2 := hs
          have o1 := hs2.o1
          rw [lA] at o1
          have hsz : B0 ≤ v.heap.size := by have := hc.1.size; omega
          refine wpOp_step rfl (fun K' hK' => ?_)
          refine step_append_lies _ (by rfl) _ _ 24 (by rfl) B0 3 i0 (.int .i64 0) 1 8 Try.underlying24 hi hz0 hz1 hz2 rfl (by decide) u9 k _ (by rfl) o1 ⟨w15, 0, none⟩ 1 1 ([sv].map (fun n => Value.int .i64 n)) (by rfl) (by rfl) (fun j u hu => by have := hx15.2 j u hu; unfold Addr.add; split <;> simp_all) (ints_one _) (by omega) k1 k2 hsz _ rfl ?_
          intro g cp w4 o4 hg4 ha4 hl4
          have hkx : Kx (fun b => B0 ≤ b ∧ b < wr.heap.size) v w4 := Kx.grown hg4 (fun r e => .inl (hZ1 r e))
          exact hK' _ _ (hK _ _ hkx (hs2.add lA rfl o4 hg4 ha4))
        case qq7 =>
          rintro x v hc hs hd K hK
          obtain ⟨r1, hr1⟩ : ∃ r, x 16 = r := ⟨_, rfl⟩
          rw [hr1] at hs hK
          obtain ⟨x, rfl⟩ := upd_of hr1
          obtain ⟨x, rfl⟩ := upd_of (show x 17 = u10 from hd 17 _ (by simp) (by decide) (by decide) rfl)
          obtain ⟨w33, e33, hw33, hx33⟩ := hd 33 _ (by simp) (by decide) (by decide) rfl
          obtain ⟨x, rfl⟩ := upd_of (show x 33 = .slice (some ⟨w33, 0, none⟩) 1 1 from e33)
          show wpOp Try.prog _ _ 34 K (⟨#[_, _, _, _, _, _, _, _, _, _, _, _, _, _, _, _, _, _, _, _, _, _, _, _, _, _, _, _, _, _, _, _, _, _, _, _, _, _, _, _, _, _, _, _, _, _, _, _, _, _, _, _, _, _, _, _, _, _, _, x 0, x 1, x 2, x 3, x 4, x 5, x 6, x 7, x 8, x 9, x 10, x 11, x 12, x 13, x 14, x 15, r1, u10, x 18, x 19, x 20, x 21, x 22, x 23, x 24, x 25, x 26, x 27, x 28, x 29, x 30, x 31, x 32, .slice (some ⟨w33, 0, none⟩) 1 1, x 34, _, _, _, _, _, _, _, _, _, _, _, _, _, _, _, _, _, _, _, _, _, _, _, _, _, _, _, _, _, _, _, _, _, _, _, _, _, _, _, _, _, _, _, _, _, _, _, _, _, _, _, _, _, _, _, _, _, _, _, _, _, _, _, _, _, _, _, _, _, _, _, _, _, _, _, _, _, _, _, _, _, _, _, _, _, _, _, _, _, _, _, _, _, _, _, _, _, _, _, _, _, _, _, _, _, _, _, _, _, _, _, _, _, _, _, _, _, _, _, _, _, _, _, _, _, _, _, _, _, _, _, _, _, _, _, _, _, _, _, _, _, _, _, _, _, _, _, _, _, _, _, _, _, _, _, _, _, _, _, _, _, _, _, _, _, _, _, _, _, _, _, _, _, _, _, _, _, _], []⟩ : Act) v
          have hs2 := hs.turn
          have o1 := hs2.o1
          rw [lB] at o1
          have hsz : B0 ≤ v.heap.size := by have := hc.1.size; omega
          refine wpOp_step rfl (fun K' hK' => ?_)
          refine step_append_lies _ (by rfl) _ _ 24 (by rfl) B0 3 i0 (.int .i64 0) 1 8 Try.underlying24 hi hz0 hz1 hz2 rfl (by decide) u10 k _ (by rfl) o1 ⟨w33, 0, none⟩ 1 1 ([hv].map (fun n => Value.int .i64 n)) (by rfl) (by rfl) (fun j u hu => by have := hx33.2 j u hu; unfold Addr.add; split <;> simp_all) (ints_one _) (by omega) k1 k2 hsz _ rfl ?_
          intro g cp w4 o4 hg4 ha4 hl4
          have hkx : Kx (fun b => B0 ≤ b ∧ b < wr.heap.size) v w4 := Kx.grown hg4 (fun r e => .inl (hZ2 r e))
          exact hK' _ _ (hK _ _ hkx (hs2.add lB rfl o4 hg4 ha4).turn.turn.turn)
        case fin7 =>
          rintro x v hc hs hd
          clear hd
          obtain ⟨r1, hr1⟩ : ∃ r, x 16 = r := ⟨_, rfl⟩
          obtain ⟨r2, hr2⟩ : ∃ r, x 34 = r := ⟨_, rfl⟩
          rw [hr1, hr2] at hs
          obtain ⟨x, rfl⟩ := upd_of hr1
          obtain ⟨x, rfl⟩ := upd_of (show x 34 = r2 from by rw [← hr2, upd_ne]; decide)
          show wpList Try.prog _ _ (List.drop 35 _) (⟨#[_, _, _, _, _, _, _, _, _, _, _, _, _, _, _, _, _, _, _, _, _, _, _, _, _, _, _, _, _, _, _, _, _, _, _, _, _, _, _, _, _, _, _, _, _, _, _, _, _, _, _, _, _, _, _, _, _, _, _, x 0, x 1, x 2, x 3, x 4, x 5, x 6, x 7, x 8, x 9, x 10, x 11, x 12, x 13, x 14, x 15, r1, x 17, x 18, x 19, x 20, x 21, x 22, x 23, x 24, x 25, x 26, x 27, x 28, x 29, x 30, x 31, x 32, x 33, r2, _, _, _, _, _, _, _, _, _, _, _, _, _, _, _, _, _, _, _, _, _, _, _, _, _, _, _, _, _, _, _, _, _, _, _, _, _, _, _, _, _, _, _, _, _, _, _, _, _, _, _, _, _, _, _, _, _, _, _, _, _, _, _, _, _, _, _, _, _, _, _, _, _, _, _, _, _, _, _, _, _, _, _, _, _, _, _, _, _, _, _, _, _, _, _, _, _, _, _, _, _, _, _, _, _, _, _, _, _, _, _, _, _, _, _, _, _, _, _, _, _, _, _, _, _, _, _, _, _, _, _, _, _, _, _, _, _, _, _, _, _, _, _, _, _, _, _, _, _, _, _, _, _, _, _, _, _, _, _, _, _, _, _, _, _, _, _, _, _, _, _, _, _, _, _, _, _, _], []⟩ : Act) v
          simp only [List.drop_succ_cons, List.drop_zero]
          go_upto_region 8 with fail
          obtain ⟨gV8, x1, x2⟩ := hc
          clear hr1 hr2 z0 z1 z2 z3 z4 z5 z6 z7 z8 z9 z10 z11 HB1 HB2 c0 c1 c2 c3
          clear gV7 h47 gX
          refine (show (∀ y8 : Nat → Value, Code.wp Try.prog _ _ ⟨#[s 0, .slice ya Y.length yc, .int .u8 days, .pointer (some ⟨w.heap.size, 0, none⟩), s 4, s 5, .bool false, .slice (some ⟨B, 0, none⟩) l.length c, .slice (some ⟨D, 0, none⟩) t.length f, r1, r2, u11, u12, .int .i64 (k : Int), .pointer (some ⟨b1, 0, none⟩), .pointer (some ⟨b2, 0, none⟩), undef, undef, undef, undef, undef, undef, undef, undef, undef, undef, undef, undef, undef, undef, undef, undef, undef, undef, s 34, s 35, s 36, s 37, s 38, s 39, s 40, s 41, s 42, y 43, y 44, y 45, y 46, y 47, y 48, z 49, z 50, z 51, z 52, z 53, z 54, z 55, z 56, z 57, z 58, y8 59, y8 60, y8 61, y8 62, y8 63, y8 64, y8 65, y8 66, y8 67, y8 68, y8 69, y8 70, y8 71, y8 72, y8 73, y8 74, y8 75, y8 76, y8 77, y8 78, y8 79, y8 80, y8 81, y8 82, y8 83, y8 84, y8 85, y8 86, y8 87, y8 88, y8 89, y8 90, y8 91, y8 92, y8 93, y 94, y 95, y 96, y 97, y 98, y 99, y 100, y 101, y 102, y 103, undef, undef, undef, undef, undef, undef, undef, undef, undef, undef, undef, undef, undef, undef, undef, undef, undef, undef, undef, undef, undef, undef, undef, undef, undef, undef, undef, undef, undef, undef, undef, undef, undef, undef, undef, undef, undef, undef, undef, undef, undef, undef, undef, undef, undef, undef, undef, undef, undef, undef, undef, undef, undef, undef, undef, undef, undef, undef, undef, undef, undef, undef, undef, undef, undef, undef, undef, undef, undef, undef, undef, undef, undef, undef, undef, undef, undef, undef, undef, undef, undef, undef, undef, undef, undef, undef, undef, undef, undef, undef, undef, undef, undef, undef, undef, undef, undef, undef, undef, undef, undef, undef, undef, undef, undef, undef, undef, undef, undef, undef, undef, undef, undef, undef, undef, undef, undef, undef, undef, undef, undef, undef, undef, undef, undef, undef, undef, undef, undef, undef, undef, undef, undef, undef, undef, undef, undef, undef, undef, undef, undef, undef, undef, undef, undef, undef, undef, undef, undef, undef, undef, undef, undef, undef, undef, undef, undef, undef, undef, undef, undef, undef, undef, undef, undef, undef, undef, undef], []⟩ _) → _ from fun h => h ((fun l : List Value => fun i => l.getD i undef) [undef, undef, undef, undef, undef, undef, undef, undef, undef, undef, undef, undef, undef, undef, undef, undef, undef, undef, undef, undef, undef, undef, undef, undef, undef, undef, undef, undef, undef, undef, undef, undef, undef, undef, undef, undef, undef, undef, undef, undef, undef, undef, undef, undef, undef, undef, undef, undef, undef, undef, undef, undef, undef, undef, undef, undef, undef, undef, undef, _, _, _, _, _, _, _, _, _, _, _, _, _, _, _, _, _, _, _, _, _, _, _, _, _, _, _, _, _, _, _, _, _, _, _, undef, undef, undef, undef, undef, undef, undef, undef, undef, undef])) ?_
          intro y8
          dsimp only
          refine wp_region_two (fun b => B0 ≤ b ∧ b < wr.heap.size) 10 4 9 [(2, 1), (3, 2), (4, 0), (4, 3), (7, 6), (8, 7), (9, 4), (9, 5), (9, 8)] (fun x => ⟨#[s 0, .slice ya Y.length yc, .int .u8 days, .pointer (some ⟨w.heap.size, 0, none⟩), s 4, s 5, .bool false, .slice (some ⟨B, 0, none⟩) l.length c, .slice (some ⟨D, 0, none⟩) t.length f, r1, r2, u11, u12, .int .i64 (k : Int), .pointer (some ⟨b1, 0, none⟩), .pointer (some ⟨b2, 0, none⟩), undef, undef, undef, undef, undef, undef, undef, undef, undef, undef, undef, undef, undef, undef, undef, undef, undef, undef, s 34, s 35, s 36, s 37, s 38, s 39, s 40, s 41, s 42, y 43, y 44, y 45, y 46, y 47, y 48, z 49, z 50, z 51, z 52, z 53, z 54, z 55, z 56, z 57, z 58, y8 59, y8 60, y8 61, y8 62, y8 63, y8 64, y8 65, y8 66, y8 67, y8 68, y8 69, y8 70, y8 71, y8 72, y8 73, y8 74, y8 75, y8 76, y8 77, y8 78, y8 79, y8 80, y8 81, y8 82, y8 83, y8 84, y8 85, y8 86, y8 87, y8 88, y8 89, y8 90, y8 91, y8 92, y8 93, x 0, x 1, x 2, x 3, x 4, x 5, x 6, x 7, x 8, x 9, undef, undef, undef, undef, undef, undef, undef, undef, undef, undef, undef, undef, undef, undef, undef, undef, undef, undef, undef, undef, undef, undef, undef, undef, undef, undef, undef, undef, undef, undef, undef, undef, undef, undef, undef, undef, undef, undef, undef, undef, undef, undef, undef, undef, undef, undef, undef, undef, undef, undef, undef, undef, undef, undef, undef, undef, undef, undef, undef, undef, undef, undef, undef, undef, undef, undef, undef, undef, undef, undef, undef, undef, undef, undef, undef, undef, undef, undef, undef, undef, undef, undef, undef, undef, undef, undef, undef, undef, undef, undef, undef, undef, undef, undef, undef, undef, undef, undef, undef, undef, undef, undef, undef, undef, undef, undef, undef, undef, undef, undef, undef, undef, undef, undef, undef, undef, undef, undef, undef, undef, undef, undef, undef, undef, undef, undef, undef, undef, undef, undef, undef, undef, undef, undef, undef, undef, undef, undef, undef, undef, undef, undef, undef, undef, undef, undef, undef, undef, undef, undef, undef, undef, undef, undef, undef, undef, undef, undef, undef, undef, undef, undef, undef, undef, undef, undef, undef, undef], []⟩) (fun i => [y 94, y 95, y 96, y 97, y 98, y 99, y 100, y 101, y 102, y 103].getD i undef) [fun _ x => x = u11, fun _ x => x = .pointer (some ⟨b1, 0, none⟩), fun _ x => x = .int .i64 sl, fun v x => ∃ b, x = .slice (some ⟨b, 0, none⟩) 1 1 ∧ wr.heap.size ≤ b ∧ Box v b [.int .i64 sl], fun _ _ => True, fun _ x => x = u12, fun _ x => x = .pointer (some ⟨b2, 1, none⟩), fun _ x => x = .int .i64 wh, fun v x => ∃ b, x = .slice (some ⟨b, 0, none⟩) 1 1 ∧ wr.heap.size ≤ b ∧ Box v b [.int .i64 wh], fun _ _ => True] (fun v => Gr V v ∧ Box v b1 [.int .i64 sl, .int .i64 sh] ∧ Box v b2 [.int .i64 wl, .int .i64 wh]) (fun v => Four v B0 r1 r2 u11 u12 (SA ++ [sv]) (SB ++ [hv]) SC SD) (fun v x => Four v B0 r1 r2 x u12 (SA ++ [sv]) (SB ++ [hv]) (SC ++ [sl]) SD) (fun v x y => Four v B0 r1 r2 x y (SA ++ [sv]) (SB ++ [hv]) (SC ++ [sl]) (SD ++ [wh])) (by rfl) (by kernel_rfl) (by kernel_rfl) (by kernel_rfl) (by simp) (by omega) (by omega) (by omega) (staysZ_cons (StaysZ.eq _ _) (staysZ_cons (StaysZ.eq _ _) (staysZ_cons (StaysZ.eq _ _) (staysZ_cons (show StaysZ (fun b => B0 ≤ b ∧ b < wr.heap.size) (fun v x => ∃ b, x = .slice (some ⟨b, 0, none⟩) 1 1 ∧ wr.heap.size ≤ b ∧ Box v b [.int .i64 sl]) from fun v v' x g ⟨b, h, h1, h2⟩ => ⟨b, h, h1, h2.kx g (by omega)⟩) (staysZ_cons (fun _ _ _ _ _ => trivial) (staysZ_cons (StaysZ.eq _ _) (staysZ_cons (StaysZ.eq _ _) (staysZ_cons (StaysZ.eq _ _) (staysZ_cons (show StaysZ (fun b => B0 ≤ b ∧ b < wr.heap.size) (fun v x => ∃ b, x = .slice (some ⟨b, 0, none⟩) 1 1 ∧ wr.heap.size ≤ b ∧ Box v b [.int .i64 wh]) from fun v v' x g ⟨b, h, h1, h2⟩ => ⟨b, h, h1, h2.kx g (by omega)⟩) (staysZ_cons (fun _ _ _ _ _ => trivial) staysZ_nil))))))))))
            (fun v v' g h => ⟨Kx.toGr ((Kx.gr (Z := noBlock) h.1).th g (fun i e => .inr (by omega))), h.2.1.kx g (by omega), h.2.2.kx g (by omega)⟩) (fun v v' g h => h.keep g) (fun v v' x g h => h.keep g) (fun v v' x y g h => h.keep g) ⟨gV8.tr (Gr.dr _), x1.keep (Gr.dr _), x2.keep (Gr.dr _)⟩ (hs.keep (Gr.dr _)) ?step8 ?pp8 ?qq8 ?fin8
          case step8 =>
            rintro i hi np nq x v hc hd K hK
            have hi8 : i = 0 ∨ i = 1 ∨ i = 2 ∨ i = 3 ∨ i = 5 ∨ i = 6 ∨ i = 7 ∨ i = 8 := by omega
            rcases hi8 with rfl | rfl | rfl | rfl | rfl | rfl | rfl | rfl
            · show wpOp Try.prog _ _ 0 K (⟨#[_, _, _, _, _, _, _, _, _, _, _, _, _, _, _, _, _, _, _, _, _, _, _, _, _, _, _, _, _, _, _, _, _, _, _, _, _, _, _, _, _, _, _, _, _, _, _, _, _, _, _, _, _, _, _, _, _, _, _, _, _, _, _, _, _, _, _, _, _, _, _, _, _, _, _, _, _, _, _, _, _, _, _, _, _, _, _, _, _, _, _, _, _, _, x 0, x 1, x 2, x 3, x 4, x 5, x 6, x 7, x 8, x 9, _, _, _, _, _, _, _, _, _, _, _, _, _, _, _, _, _, _, _, _, _, _, _, _, _, _, _, _, _, _, _, _, _, _, _, _, _, _, _, _, _, _, _, _, _, _, _, _, _, _, _, _, _, _, _, _, _, _, _, _, _, _, _, _, _, _, _, _, _, _, _, _, _, _, _, _, _, _, _, _, _, _, _, _, _, _, _, _, _, _, _, _, _, _, _, _, _, _, _, _, _, _, _, _, _, _, _, _, _, _, _, _, _, _, _, _, _, _, _, _, _, _, _, _, _, _, _, _, _, _, _, _, _, _, _, _, _, _, _, _, _, _, _, _, _, _, _, _, _, _, _, _, _, _, _, _, _, _, _, _, _, _, _, _, _, _, _, _], []⟩ : Act) v
              refine wpOp_step rfl (fun K' hK' => ?_)
              go_simp
              exact hK' _ _ (hK _ _ (Below.refl _ _) (at_of rfl rfl))
            · show wpOp Try.prog _ _ 1 K (⟨#[_, _, _, _, _, _, _, _, _, _, _, _, _, _, _, _, _, _, _, _, _, _, _, _, _, _, _, _, _, _, _, _, _, _, _, _, _, _, _, _, _, _, _, _, _, _, _, _, _, _, _, _, _, _, _, _, _, _, _, _, _, _, _, _, _, _, _, _, _, _, _, _, _, _, _, _, _, _, _, _, _, _, _, _, _, _, _, _, _, _, _, _, _, _, x 0, x 1, x 2, x 3, x 4, x 5, x 6, x 7, x 8, x 9, _, _, _, _, _, _, _, _, _, _, _, _, _, _, _, _, _, _, _, _, _, _, _, _, _, _, _, _, _, _, _, _, _, _, _, _, _, _, _, _, _, _, _, _, _, _, _, _, _, _, _, _, _, _, _, _, _, _, _, _, _, _, _, _, _, _, _, _, _, _, _, _, _, _, _, _, _, _, _, _, _, _, _, _, _, _, _, _, _, _, _, _, _, _, _, _, _, _, _, _, _, _, _, _, _, _, _, _, _, _, _, _, _, _, _, _, _, _, _, _, _, _, _, _, _, _, _, _, _, _, _, _, _, _, _, _, _, _, _, _, _, _, _, _, _, _, _, _, _, _, _, _, _, _, _, _, _, _, _, _, _, _, _, _, _, _, _, _], []⟩ : Act) v
              refine wpOp_step rfl (fun K' hK' => ?_)
              go_simp
              exact hK' _ _ (hK _ _ (Below.refl _ _) (at_of rfl rfl))
            · obtain ⟨x, rfl⟩ := upd_of (show x 1 = .pointer (some ⟨b1, 0, none⟩) from hd 1 _ (by simp) (by decide) (by decide) rfl)
              show wpOp Try.prog _ _ 2 K (⟨#[_, _, _, _, _, _, _, _, _, _, _, _, _, _, _, _, _, _, _, _, _, _, _, _, _, _, _, _, _, _, _, _, _, _, _, _, _, _, _, _, _, _, _, _, _, _, _, _, _, _, _, _, _, _, _, _, _, _, _, _, _, _, _, _, _, _, _, _, _, _, _, _, _, _, _, _, _, _, _, _, _, _, _, _, _, _, _, _, _, _, _, _, _, _, x 0, .pointer (some ⟨b1, 0, none⟩), x 2, x 3, x 4, x 5, x 6, x 7, x 8, x 9, _, _, _, _, _, _, _, _, _, _, _, _, _, _, _, _, _, _, _, _, _, _, _, _, _, _, _, _, _, _, _, _, _, _, _, _, _, _, _, _, _, _, _, _, _, _, _, _, _, _, _, _, _, _, _, _, _, _, _, _, _, _, _, _, _, _, _, _, _, _, _, _, _, _, _, _, _, _, _, _, _, _, _, _, _, _, _, _, _, _, _, _, _, _, _, _, _, _, _, _, _, _, _, _, _, _, _, _, _, _, _, _, _, _, _, _, _, _, _, _, _, _, _, _, _, _, _, _, _, _, _, _, _, _, _, _, _, _, _, _, _, _, _, _, _, _, _, _, _, _, _, _, _, _, _, _, _, _, _, _, _, _, _, _, _, _, _, _], []⟩ : Act) v
              have qq := hc.2.1.2 0 _ rfl
              refine wpOp_step rfl (fun K' hK' => ?_)
              go_simp
              exact hK' _ _ (hK _ _ (Below.refl _ _) (at_of rfl rfl))
            · obtain ⟨x, rfl⟩ := upd_of (show x 2 = .int .i64 sl from hd 2 _ (by simp) (by decide) (by decide) rfl)
              show wpOp Try.prog _ _ 3 K (⟨#[_, _, _, _, _, _, _, _, _, _, _, _, _, _, _, _, _, _, _, _, _, _, _, _, _, _, _, _, _, _, _, _, _, _, _, _, _, _, _, _, _, _, _, _, _, _, _, _, _, _, _, _, _, _, _, _, _, _, _, _, _, _, _, _, _, _, _, _, _, _, _, _, _, _, _, _, _, _, _, _, _, _, _, _, _, _, _, _, _, _, _, _, _, _, x 0, x 1, .int .i64 sl, x 3, x 4, x 5, x 6, x 7, x 8, x 9, _, _, _, _, _, _, _, _, _, _, _, _, _, _, _, _, _, _, _, _, _, _, _, _, _, _, _, _, _, _, _, _, _, _, _, _, _, _, _, _, _, _, _, _, _, _, _, _, _, _, _, _, _, _, _, _, _, _, _, _, _, _, _, _, _, _, _, _, _, _, _, _, _, _, _, _, _, _, _, _, _, _, _, _, _, _, _, _, _, _, _, _, _, _, _, _, _, _, _, _, _, _, _, _, _, _, _, _, _, _, _, _, _, _, _, _, _, _, _, _, _, _, _, _, _, _, _, _, _, _, _, _, _, _, _, _, _, _, _, _, _, _, _, _, _, _, _, _, _, _, _, _, _, _, _, _, _, _, _, _, _, _, _, _, _, _, _, _], []⟩ : Act) v
              refine wpOp_step rfl (fun K' hK' => ?_)
              go_simp
              have gA := Gr.al v (.cells (List.toArray [.int .i64 sl]) 3)
              exact hK' _ _ (hK _ _ gA (at_of rfl ⟨v.heap.size, rfl, Nat.le_trans (Nat.le_trans h1 (Nat.le_of_lt hc.2.1.1)) (Nat.le_refl _), Box.new v [.int .i64 sl] 3 v.heap.size rfl⟩))
            · show wpOp Try.prog _ _ 5 K (⟨#[_, _, _, _, _, _, _, _, _, _, _, _, _, _, _, _, _, _, _, _, _, _, _, _, _, _, _, _, _, _, _, _, _, _, _, _, _, _, _, _, _, _, _, _, _, _, _, _, _, _, _, _, _, _, _, _, _, _, _, _, _, _, _, _, _, _, _, _, _, _, _, _, _, _, _, _, _, _, _, _, _, _, _, _, _, _, _, _, _, _, _, _, _, _, x 0, x 1, x 2, x 3, x 4, x 5, x 6, x 7, x 8, x 9, _, _, _, _, _, _, _, _, _, _, _, _, _, _, _, _, _, _, _, _, _, _, _, _, _, _, _, _, _, _, _, _, _, _, _, _, _, _, _, _, _, _, _, _, _, _, _, _, _, _, _, _, _, _, _, _, _, _, _, _, _, _, _, _, _, _, _, _, _, _, _, _, _, _, _, _, _, _, _, _, _, _, _, _, _, _, _, _, _, _, _, _, _, _, _, _, _, _, _, _, _, _, _, _, _, _, _, _, _, _, _, _, _, _, _, _, _, _, _, _, _, _, _, _, _, _, _, _, _, _, _, _, _, _, _, _, _, _, _, _, _, _, _, _, _, _, _, _, _, _, _, _, _, _, _, _, _, _, _, _, _, _, _, _, _, _, _, _], []⟩ : Act) v
              refine wpOp_step rfl (fun K' hK' => ?_)
              go_simp
              exact hK' _ _ (hK _ _ (Below.refl _ _) (at_of rfl rfl))
            · show wpOp Try.prog _ _ 6 K (⟨#[_, _, _, _, _, _, _, _, _, _, _, _, _, _, _, _, _, _, _, _, _, _, _, _, _, _, _, _, _, _, _, _, _, _, _, _, _, _, _, _, _, _, _, _, _, _, _, _, _, _, _, _, _, _, _, _, _, _, _, _, _, _, _, _, _, _, _, _, _, _, _, _, _, _, _, _, _, _, _, _, _, _, _, _, _, _, _, _, _, _, _, _, _, _, x 0, x 1, x 2, x 3, x 4, x 5, x 6, x 7, x 8, x 9, _, _, _, _, _, _, _, _, _, _, _, _, _, _, _, _, _, _, _, _, _, _, _, _, _, _, _, _, _, _, _, _, _, _, _, _, _, _, _, _, _, _, _, _, _, _, _, _, _, _, _, _, _, _, _, _, _, _, _, _, _, _, _, _, _, _, _, _, _, _, _, _, _, _, _, _, _, _, _, _, _, _, _, _, _, _, _, _, _, _, _, _, _, _, _, _, _, _, _, _, _, _, _, _, _, _, _, _, _, _, _, _, _, _, _, _, _, _, _, _, _, _, _, _, _, _, _, _, _, _, _, _, _, _, _, _, _, _, _, _, _, _, _, _, _, _, _, _, _, _, _, _, _, _, _, _, _, _, _, _, _, _, _, _, _, _, _, _], []⟩ : Act) v
              refine wpOp_step rfl (fun K' hK' => ?_)
              go_simp
              exact hK' _ _ (hK _ _ (Below.refl _ _) (at_of rfl rfl))
            · obtain ⟨x, rfl⟩ := upd_of (show x 6 = .pointer (some ⟨b2, 1, none⟩) from hd 6 _ (by simp) (by decide) (by decide) rfl)
              show wpOp Try.prog _ _ 7 K (⟨#[_, _, _, _, _, _, _, _, _, _, _, _, _, _, _, _, _, _, _, _, _, _, _, _, _, _, _, _, _, _, _, _, _, _, _, _, _, _, _, _, _, _, _, _, _, _, _, _, _, _, _, _, _, _, _, _, _, _, _, _, _, _, _, _, _, _, _, _, _, _, _, _, _, _, _, _, _, _, _, _, _, _, _, _, _, _, _, _, _, _, _, _, _, _, x 0, x 1, x 2, x 3, x 4, x 5, .pointer (some ⟨b2, 1, none⟩), x 7, x 8, x 9, _, _, _, _, _, _, _, _, _, _, _, _, _, _, _, _, _, _, _, _, _, _, _, _, _, _, _, _, _, _, _, _, _, _, _, _, _, _, _, _, _, _, _, _, _, _, _, _, _, _, _, _, _, _, _, _, _, _, _, _, _, _, _, _, _, _, _, _, _, _, _, _, _, _, _, _, _, _, _, _, _, _, _, _, _, _, _, _, _, _, _, _, _, _, _, _, _, _, _, _, _, _, _, _, _, _, _, _, _, _, _, _, _, _, _, _, _, _, _, _, _, _, _, _, _, _, _, _, _, _, _, _, _, _, _, _, _, _, _, _, _, _, _, _, _, _, _, _, _, _, _, _, _, _, _, _, _, _, _, _, _, _, _, _, _, _, _, _], []⟩ : Act) v
              have qq := hc.2.2.2 1 _ rfl
              refine wpOp_step rfl (fun K' hK' => ?_)
              go_simp
              exact hK' _ _ (hK _ _ (Below.refl _ _) (at_of rfl rfl))
            · obtain ⟨x, rfl⟩ := upd_of (show x 7 = .int .i64 wh from hd 7 _ (by simp) (by decide) (by decide) rfl)
              show wpOp Try.prog _ _ 8 K (⟨#[_, _, _, _, _, _, _, _, _, _, _, _, _, _, _, _, _, _, _, _, _, _, _, _, _, _, _, _, _, _, _, _, _, _, _, _, _, _, _, _, _, _, _, _, _, _, _, _, _, _, _, _, _, _, _, _, _, _, _, _, _, _, _, _, _, _, _, _, _, _, _, _, _, _, _, _, _, _, _, _, _, _, _, _, _, _, _, _, _, _, _, _, _, _, x 0, x 1, x 2, x 3, x 4, x 5, x 6, .int .i64 wh, x 8, x 9, _, _, _, _, _, _, _, _, _, _, _, _, _, _, _, _, _, _, _, _, _, _, _, _, _, _, _, _, _, _, _, _, _, _, _, _, _, _, _, _, _, _, _, _, _, _, _, _, _, _, _, _, _, _, _, _, _, _, _, _, _, _, _, _, _, _, _, _, _, _, _, _, _, _, _, _, _, _, _, _, _, _, _, _, _, _, _, _, _, _, _, _, _, _, _, _, _, _, _, _, _, _, _, _, _, _, _, _, _, _, _, _, _, _, _, _, _, _, _, _, _, _, _, _, _, _, _, _, _, _, _, _, _, _, _, _, _, _, _, _, _, _, _, _, _, _, _, _, _, _, _, _, _, _, _, _, _, _, _, _, _, _, _, _, _, _, _, _], []⟩ : Act) v
              refine wpOp_step rfl (fun K' hK' => ?_)
              go_simp
              have gA := Gr.al v (.cells (List.toArray [.int .i64 wh]) 3)
              exact hK' _ _ (hK _ _ gA (at_of rfl ⟨v.heap.size, rfl, Nat.le_trans (Nat.le_trans h1 (Nat.le_of_lt hc.2.1.1)) (Nat.le_refl _), Box.new v [.int .i64 wh] 3 v.heap.size rfl⟩))
          case pp8 =>
            rintro x v hc hs hd K hK
            obtain ⟨x, rfl⟩ := upd_of (show x 0 = u11 from hd 0 _ (by simp) (by decide) (by decide) rfl)
            obtain ⟨w3, e3, hw3, hx3⟩ := hd 3 _ (by simp) (by decide) (by decide) rfl
            obtain ⟨x, rfl⟩ := upd_of (show x 3 = .slice (some ⟨w3, 0, none⟩) 1 1 from e3)
            show wpOp Try.prog _ _ 4 K (⟨#[_, _, _, _, _, _, _, _, _, _, _, _, _, _, _, _, _, _, _, _, _, _, _, _, _, _, _, _, _, _, _, _, _, _, _, _, _, _, _, _, _, _, _, _, _, _, _, _, _, _, _, _, _, _, _, _, _, _, _, _, _, _, _, _, _, _, _, _, _, _, _, _, _, _, _, _, _, _, _, _, _, _, _, _, _, _, _, _, _, _, _, _, _, _, u11, x 1, x 2, .slice (some ⟨w3, 0, none⟩) 1 1, x 4, x 5, x 6, x 7, x 8, x 9, _, _, _, _, _, _, _, _, _, _, _, _, _, _, _, _, _, _, _, _, _, _, _, _, _, _, _, _, _, _, _, _, _, _, _, _, _, _, _, _, _, _, _, _, _, _, _, _, _, _, _, _, _, _, _, _, _, _, _, _, _, _, _, _, _, _, _, _, _, _, _, _, _, _, _, _, _, _, _, _, _, _, _, _, _, _, _, _, _, _, _, _, _, _, _, _, _, _, _, _, _, _, _, _, _, _, _, _, _, _, _, _, _, _, _, _, _, _, _, _, _, _, _, _, _, _, _, _, _, _, _, _, _, _, _, _, _, _, _, _, _, _, _, _, _, _, _, _, _, _, _, _, _, _, _, _, _, _, _, _, _, _, _, _, _, _, _, _], []⟩ : Act) v
            have hs2 := hs.turn.turn
            have o1 := hs2.o1
            rw [lC] at o1
            have hsz : B0 ≤ v.heap.size := by have := hc.1.size; omega
            refine wpOp_step rfl (fun K' hK' => ?_)
            refine step_append_lies _ (by rfl) _ _ 24 (by rfl) B0 3 i0 (.int .i64 0) 1 8 Try.underlying24 hi hz0 hz1 hz2 rfl (by decide) u11 k _ (by rfl) o1 ⟨w3, 0, none⟩ 1 1 ([sl].map (fun n => Value.int .i64 n)) (by rfl) (by rfl) (fun j u hu => by have := hx3.2 j u hu; unfold Addr.add; split <;> simp_all) (ints_one _) (by omega) k1 k2 hsz _ rfl ?_
            intro g cp w4 o4 hg4 ha4 hl4
            have hkx : Kx (fun b => B0 ≤ b ∧ b < wr.heap.size) v w4 := Kx.grown hg4 (fun r e => .inl (hZ3 r e))
            exact hK' _ _ (hK _ _ hkx (hs2.add lC rfl o4 hg4 ha4).turn.turn)
          case qq8 =>
            rintro x v hc hs hd K hK
            obtain ⟨r3, hr1⟩ : ∃ r, x 4 = r := ⟨_, rfl⟩
            rw [hr1] at hs hK
            obtain ⟨x, rfl⟩ := upd_of hr1
            obtain ⟨x, rfl⟩ := upd_of (show x 5 = u12 from hd 5 _ (by simp) (by decide) (by decide) rfl)
            obtain ⟨w8, e8, hw8, hx8⟩ := hd 8 _ (by simp) (by decide) (by decide) rfl
            obtain ⟨x, rfl⟩ := upd_of (show x 8 = .slice (some ⟨w8, 0, none⟩) 1 1 from e8)
            show wpOp Try.prog _ _ 9 K (⟨#[_, _, _, _, _, _, _, _, _, _, _, _, _, _, _, _, _, _, _, _, _, _, _, _, _, _, _, _, _, _, _, _, _, _, _, _, _, _, _, _, _, _, _, _, _, _, _, _, _, _, _, _, _, _, _, _, _, _, _, _, _, _, _, _, _, _, _, _, _, _, _, _, _, _, _, _, _, _, _, _, _, _, _, _, _, _, _, _, _, _, _, _, _, _, x 0, x 1, x 2, x 3, r3, u12, x 6, x 7, .slice (some ⟨w8, 0, none⟩) 1 1, x 9, _, _, _, _, _, _, _, _, _, _, _, _, _, _, _, _, _, _, _, _, _, _, _, _, _, _, _, _, _, _, _, _, _, _, _, _, _, _, _, _, _, _, _, _, _, _, _, _, _, _, _, _, _, _, _, _, _, _, _, _, _, _, _, _, _, _, _, _, _, _, _, _, _, _, _, _, _, _, _, _, _, _, _, _, _, _, _, _, _, _, _, _, _, _, _, _, _, _, _, _, _, _, _, _, _, _, _, _, _, _, _, _, _, _, _, _, _, _, _, _, _, _, _, _, _, _, _, _, _, _, _, _, _, _, _, _, _, _, _, _, _, _, _, _, _, _, _, _, _, _, _, _, _, _, _, _, _, _, _, _, _, _, _, _, _, _, _, _], []⟩ : Act) v
            have hs2 := hs.turn.turn.turn
            have o1 := hs2.o1
            rw [lD] at o1
            have hsz : B0 ≤ v.heap.size := by have := hc.1.size; omega
            refine wpOp_step rfl (fun K' hK' => ?_)
            refine step_append_lies _ (by rfl) _ _ 24 (by rfl) B0 3 i0 (.int .i64 0) 1 8 Try.underlying24 hi hz0 hz1 hz2 rfl (by decide) u12 k _ (by rfl) o1 ⟨w8, 0, none⟩ 1 1 ([wh].map (fun n => Value.int .i64 n)) (by rfl) (by rfl) (fun j u hu => by have := hx8.2 j u hu; unfold Addr.add; split <;> simp_all) (ints_one _) (by omega) k1 k2 hsz _ rfl ?_
            intro g cp w4 o4 hg4 ha4 hl4
            have hkx : Kx (fun b => B0 ≤ b ∧ b < wr.heap.size) v w4 := Kx.grown hg4 (fun r e => .inl (hZ4 r e))
            exact hK' _ _ (hK _ _ hkx (hs2.add lD rfl o4 hg4 ha4).turn)
          case fin8 =>
            rintro x v hc hs hd
            clear hd
            obtain ⟨r3, hr1⟩ : ∃ r, x 4 = r := ⟨_, rfl⟩
            obtain ⟨r4, hr2⟩ : ∃ r, x 9 = r := ⟨_, rfl⟩
            rw [hr1, hr2] at hs
            obtain ⟨x, rfl⟩ := upd_of hr1
            obtain ⟨x, rfl⟩ := upd_of (show x 9 = r4 from by rw [← hr2, upd_ne]; decide)
            show wpList Try.prog _ _ (List.drop 10 _) (⟨#[_, _, _, _, _, _, _, _, _, _, _, _, _, _, _, _, _, _, _, _, _, _, _, _, _, _, _, _, _, _, _, _, _, _, _, _, _, _, _, _, _, _, _, _, _, _, _, _, _, _, _, _, _, _, _, _, _, _, _, _, _, _, _, _, _, _, _, _, _, _, _, _, _, _, _, _, _, _, _, _, _, _, _, _, _, _, _, _, _, _, _, _, _, _, x 0, x 1, x 2, x 3, r3, x 5, x 6, x 7, x 8, r4, _, _, _, _, _, _, _, _, _, _, _, _, _, _, _, _, _, _, _, _, _, _, _, _, _, _, _, _, _, _, _, _, _, _, _, _, _, _, _, _, _, _, _, _, _, _, _, _, _, _, _, _, _, _, _, _, _, _, _, _, _, _, _, _, _, _, _, _, _, _, _, _, _, _, _, _, _, _, _, _, _, _, _, _, _, _, _, _, _, _, _, _, _, _, _, _, _, _, _, _, _, _, _, _, _, _, _, _, _, _, _, _, _, _, _, _, _, _, _, _, _, _, _, _, _, _, _, _, _, _, _, _, _, _, _, _, _, _, _, _, _, _, _, _, _, _, _, _, _, _, _, _, _, _, _, _, _, _, _, _, _, _, _, _, _, _, _, _], []⟩ : Act) v
            simp only [List.drop_succ_cons, List.drop_zero]
            go_wp2
            go_roundw
            case rel => exact Lib.hid ⟨k + 1, by omega, by go_num, hc.1, by rw [HS1.out, HS2.out, HS3.out, HS4.out]; exact hs⟩
            case measure => simp [intOf]; omega
    · obtain rfl : k = l.length := by omega
      clear hlt hk
      obtain ⟨a1, e1, hu1, R1⟩ := h4.row (by rw [strT_len]; omega)
      obtain ⟨a2, e2, hu2, R2⟩ := h4.turn.row (by rw [hvyT_len]; omega)
      obtain ⟨a3, e3, hu3, R3⟩ := h4.turn.turn.row (by rw [weakT_len (Nat.le_refl _)]; omega)
      obtain ⟨a4, e4, hu4, R4⟩ := h4.turn.turn.turn.row (by rw [mostT_len (Nat.le_refl _)]; omega)
      subst hu1
      subst hu2
      subst hu3
      subst hu4
      clear h4
      have bA := strT_bd HY.out HL.out
      have bB := hvyT_bd HY.out HL.out
      have bC := weakT_bd HL.out
      have bD := mostT_bd HL.out
      have lA : (strT l Y l.length).length = l.length := strT_len _ _ _
      have lB : (hvyT l Y l.length).length = l.length := hvyT_len _ _ _
      have lC : (weakT l l.length).length = l.length := weakT_len (Nat.le_refl _)
      have lD : (mostT l l.length).length = l.length := mostT_len (Nat.le_refl _)
      obtain ⟨SA, hSA⟩ : ∃ L, strT l Y l.length = L := ⟨_, rfl⟩
      obtain ⟨SB, hSB⟩ : ∃ L, hvyT l Y l.length = L := ⟨_, rfl⟩
      obtain ⟨SC, hSC⟩ : ∃ L, weakT l l.length = L := ⟨_, rfl⟩
      obtain ⟨SD, hSD⟩ : ∃ L, mostT l l.length = L := ⟨_, rfl⟩
      obtain ⟨LL, hLL⟩ : ∃ L, spansL l = L := ⟨_, rfl⟩
      rw [hSA] at R1 bA lA ⊢
      rw [hSB] at R2 bB lB ⊢
      rw [hSC] at R3 bC lC ⊢
      rw [hSD] at R4 bD lD ⊢
      rw [lA, lB, lC, lD]
      have lLL : LL.length = l.length := by rw [← hLL]; exact spansL_len l
      have tok : TabOk t days := by
        have := (stored_parts (HST.out l.length 12 days (by omega) d0 (by omega))).2
        rw [HT.out] at this
        exact this
      have hks := tok.keep
      have hsum : ∀ m : Nat, m ≤ l.length → sumLo (l.drop m) ≤ sumT SB m (l.length - m) ∧ sumT SB m (l.length - m) ≤ sumHi (l.drop m) := fun m hm => by
        have := sumT_true l Y HY.out (fun x hx => (HL.out x hx).2.2.1) m (l.length - m) (by omega)
        rw [take_all, hSB] at this
        exact this
      have HSa : Hid (∀ (d : Int) (W' : World), 0 ≤ d → d ≤ days → (∀ s i, fallO l (untilL t days) = some (s, i) → d < s.day) → Gr wr W' → Calls Try.prog 54 #[.slice a1 l.length e1, .slice a2 l.length e2, .slice (some ⟨D, 0, none⟩) t.length f, .int .i64 d] W' fun e w' => e = .returned (.tuple #[.bool true, .int .i64 0]) ∧ Gr W' w') := Lib.hid (fun d W' h0 h1 hF g => by
        have hn : weakO l (keptTo t d t.length) = none := by
          have := stands_before (l := l) HS.out (by rw [HT.out]; exact tok.day) h0 h1 (by rw [HT.out]; exact hF)
          rw [HT.out] at this
          exact this
        have := stays_any SA SB t d bA bB hks (by omega) (by omega) a1 a2 (some ⟨D, 0, none⟩) e1 e2 f W' (R1.grow g) (R2.grow g) (rT.grow (gW.tr g))
        rw [lA, lB] at this
        have e : staysO SA SB (keptTo t d t.length) = none := by
          rw [← hSA, ← hSB]
          exact stays_true l Y HY.out (fun x hx => ⟨(HL.out x hx).2.1, (HL.out x hx).2.2.1⟩) _ (keptTo_bd hks d _).1 hn
        rw [staysV_none e] at this
        exact this)
      have HSb : Hid (∀ (d : Int) (W' : World), 0 ≤ d → d ≤ days → (∀ s i, fallO l (untilL t days) = some (s, i) → d < s.day) → Gr wr W' → Calls Try.prog 54 #[.slice a3 l.length e3, .slice a4 l.length e4, .slice (some ⟨D, 0, none⟩) t.length f, .int .i64 d] W' fun e w' => e = .returned (.tuple #[.bool true, .int .i64 0]) ∧ Gr W' w') := Lib.hid (fun d W' h0 h1 hF g => by
        have hn : weakO l (keptTo t d t.length) = none := by
          have := stands_before (l := l) HS.out (by rw [HT.out]; exact tok.day) h0 h1 (by rw [HT.out]; exact hF)
          rw [HT.out] at this
          exact this
        have := stays_any SC SD t d bC bD hks (by omega) (by omega) a3 a4 (some ⟨D, 0, none⟩) e3 e4 f W' (R3.grow g) (R4.grow g) (rT.grow (gW.tr g))
        rw [lC, lD] at this
        have e : staysO SC SD (keptTo t d t.length) = none := by
          rw [← hSC, ← hSD, stays_worst]
          exact hn
        rw [staysV_none e] at this
        exact this)
      have HSc : Hid (∀ (s : Stp) (i : Nat) (W' : World), fallO l (untilL t days) = some (s, i) → Gr wr W' → Calls Try.prog 54 #[.slice a3 l.length e3, .slice a4 l.length e4, .slice (some ⟨D, 0, none⟩) t.length f, .int .i64 s.day] W' fun e w' => e = .returned (.tuple #[.bool false, .int .i64 (i : Int)]) ∧ Gr W' w') := Lib.hid (fun s i W' hF g => by
        have hn : weakO l (keptTo t s.day t.length) = some i := by
          have := (falls_on (l := l) (S := S) (n := n) (days := days) HS.out (s := s) (i := i) (by rw [HT.out]; exact hF)).2.2
          rw [HT.out] at this
          exact this
        have := stays_any SC SD t s.day bC bD hks (by omega) (by omega) a3 a4 (some ⟨D, 0, none⟩) e3 e4 f W' (R3.grow g) (R4.grow g) (rT.grow (gW.tr g))
        rw [lC, lD] at this
        have e : staysO SC SD (keptTo t s.day t.length) = some i := by
          rw [← hSC, ← hSD, stays_worst]
          exact hn
        rw [staysV_some e] at this
        exact this)
      have HBx : Hid (∀ (m : Nat) (W' : World), m ≤ l.length → Gr wr W' → Calls Try.prog 33 #[.slice (some ⟨B, 0, none⟩) m c] W' fun e w' => ∃ a cp, e = .returned (.slice a m cp) ∧ LRow w' a (l.take m) ∧ Gr W' w') := Lib.hid (fun m W' hm g => by
        have hl2 : (l.take m).length = m := by simp; omega
        have h := lboxes_any (l.take m) (by omega) B 0 c W' (RowOf.take31 (rL.grow (gW.tr g)) m)
        rw [hl2] at h
        refine h.mono ?_
        rintro e w' ⟨v, rfl, ho, hg⟩
        obtain ⟨a, cp, hv, hr⟩ := owns_row (enc := encL) (l := l.take m) (fun _ => rfl) (by omega) (by rw [hl2]; exact ho)
        rw [hl2] at hv
        exact ⟨a, cp, by rw [hv], hr, hg⟩)
      have HSp : Hid (∀ (W' : World), Gr wr W' → Calls Try.prog 34 #[.slice (some ⟨D, 0, none⟩) t.length f] W' fun e w' => ∃ a cp, e = .returned (.slice a t.length cp) ∧ TRow w' a t ∧ t.length ≤ cp ∧ Gr W' w') := Lib.hid (fun W' g => by
        refine (lsteps_any t (by omega) D 0 f W' (rT.grow (gW.tr g))).mono ?_
        rintro e w' ⟨v, rfl, ho, hg⟩
        obtain ⟨a, cp, hv, hr, _, hc2⟩ := owns_row_cap (enc := encT) (l := t) (fun _ => rfl) (by omega) ho
        exact ⟨a, cp, by rw [hv], hr, hc2, hg⟩)
      have HLo : Hid (∀ (a : Option Addr) (cp : Nat) (W' : World), LRow W' a (l.take l.length) → Calls Try.prog 35 #[.slice a l.length cp] W' fun e w' => ∃ b c, e = .returned (.tuple #[.slice b l.length c, .int .i64 0]) ∧ SRow w' b LL ∧ Gr W' w') := Lib.hid (fun a cp W' hr => by
        have hb : boxedL 50 l = 0 := by
          have := HST.out l.length 50 0 (by omega) (by omega) (by omega)
          rw [List.take_length] at this
          unfold storedL at this
          split at this
          · assumption
          · exact absurd this (by assumption)
        rw [List.take_length] at hr
        have := loads_ok l hb a cp W' hr
        rw [hLL, lLL] at this
        exact this)
      have HFa : Hid (∀ (m : Nat) (a c : Option Addr) (cp cc : Nat) (W' : World), m ≤ l.length → t.length ≤ cc → LRow W' a (l.take m) → TRow W' c t → Calls Try.prog 36 #[.slice a m cp, .slice c t.length cc, .int .i64 days] W' fun e w' => e = .returned (fallV (l.take m) t days) ∧ Gr W' w') := Lib.hid (fun m a c cp cc W' hm hcc hr ht => by
        have hl2 : (l.take m).length = m := by simp; omega
        have hs := HST.out m 50 days (by omega) d0 (by omega)
        rw [HT.out] at hs
        have := fall_ok (l.take m) t days hs a c cp cc hcc W' hr ht
        rw [hl2] at this
        exact this)
      have rT2 := rT.grow gW
      have HB2 := Lib.hid bB
      have HLL := Lib.hid hLL
      have HSU := Lib.hid hsum
      have HTD := Lib.hid tok.day
      have HlB := Lib.hid lB
      clear lA lB lC lD lLL
      clear bA bB bC bD hSA hSB hSC hSD hks tok R1 R3 R4 hLL hsum
      have wd : IntKind.i64.wrap days = days := IntWalk.i64_in _ (by omega)
      cases hO : fallO l (untilL t days) with
      | none =>
        have F0 := HFa.out l.length
        rw [List.take_length, fallV_none hO] at F0
        have HF0 := Lib.hid F0
        clear F0
        have HO := Lib.hid hO
        clear hO
        have tok0 : True := trivial
        go_upto_region 11 with (first
          | (have _t := tok0; clear tok0 _t; go_at_call 33; refine (HBx.out l.length _ (Nat.le_refl _) (Below.refl _ _)).mono ?_; rintro e w2 ⟨x1, y1, rfl, r1, g1⟩)
          | (go_at_call 34; refine (HSp.out _ g1).mono ?_; rintro e w3 ⟨x2, y2, rfl, r2, hy2, g2⟩)
          | (go_at_call 36; refine (HF0.out x1 x2 y1 y2 _ (Nat.le_refl _) hy2 (by have := r1.grow g2; rw [List.take_length] at this; exact this) r2).mono ?_; rintro e w4 ⟨rfl, g3⟩)
          | (go_at_call 33; refine (HBx.out l.length _ (Nat.le_refl _) (g1.tr (g2.tr g3))).mono ?_; rintro e w5 ⟨x3, y3, rfl, r3, g4⟩)
          | (go_at_call 35; refine (HLo.out x3 y3 _ r3).mono ?_; rintro e w6 ⟨x4, y4, rfl, r4, g5⟩))
        refine wp_abs (fun X => Gr wr X ∧ SRow X x4 LL) ⟨g1.tr (g2.tr (g3.tr (g4.tr g5))), r4⟩ ?_
        clear r1 r2 r3 r4 g1 g2 g3 g4 g5 HF0
        rintro X ⟨gX, r4⟩
        have HDD : Hid (∀ d : Nat, (d : Int) ≤ days → (d : Int) ≤ days ∧ ∀ s i, fallO l (untilL t days) = some (s, i) → (d : Int) < s.day) := Lib.hid (fun d hd => ⟨by omega, fun s i h => by
          have e := HO.out
          rw [h] at e
          cases e⟩)
        go_upto_region 21 with fail
        obtain ⟨Z, hZ⟩ : ∃ Z, X = Z := ⟨_, rfl⟩
        rw [hZ] at gX r4 ⊢
        clear hZ
        go_wp2
        go_loopw [24] (fun i wl => Hid (∃ d : Nat, (d : Int) ≤ days + 1 ∧ i = .int .i64 (d : Int) ∧ Gr Z wl)) (fun i _ => (days + 1 - intOf i).toNat)
        case atStart => exact Lib.hid ⟨0, by omega, rfl, Below.refl _ _⟩
        case round =>
          obtain ⟨d, hd, rfl, gZ⟩ := hrel.out
          clear hrel
          by_cases hlt : (d : Int) ≤ days
          · obtain ⟨hd1, hd2⟩ := HDD.out d hlt
            have HD2 := Lib.hid hd2
            clear hd2
            have tokd : True := trivial
            go_wp2_with (first
              | (have _t := tokd; clear tokd _t; go_at_call 54; refine (HSa.out (d : Int) _ (by omega) hd1 HD2.out (gX.tr gZ)).mono ?_; rintro e v1 ⟨rfl, g1⟩)
              | (go_at_call 54; refine (HSb.out (d : Int) _ (by omega) hd1 HD2.out (gX.tr (gZ.tr g1))).mono ?_; rintro e v2 ⟨rfl, g2⟩))
            go_roundw
            case rel => exact Lib.hid ⟨d + 1, by omega, by go_num, gZ.tr (g1.tr g2)⟩
            case measure => simp [intOf]; omega
          · have hdl : decide ((d : Int) ≤ days) = false := by simpa using hlt
            clear hd hlt HDD HSa HSb HSc
            replace gX := gX.tr gZ
            replace r4 := r4.grow gZ
            have R2' := R2.grow gX
            clear gZ
            have wl0 : IntKind.i64.wrap ((l.length : Int) - 1) = (l.length : Int) - 1 := IntWalk.i64_in _ (by omega)
            go_wp2
            go_loopw [30, 29] (fun i q wv => Hid (∃ (j : Nat) (u : Int), j ≤ l.length ∧ i = .int .i64 u ∧ u = (j : Int) - 1 ∧ q = .int .i64 (sumT SB j (l.length - j)) ∧ Gr wr wv)) (fun i _ _ => (intOf i + 1).toNat)
            case atStart => exact Lib.hid ⟨l.length, (l.length : Int) - 1, Nat.le_refl _, rfl, rfl, by rw [Nat.sub_self]; rfl, Below.refl _ _⟩
            case round =>
              obtain ⟨j, u, hj, rfl, hu, rfl, gV⟩ := hrel.out
              clear hrel
              by_cases hj0 : 0 < j
              · obtain ⟨m, rfl⟩ : ∃ m, j = m + 1 := ⟨j - 1, by omega⟩
                obtain rfl : u = (m : Int) := by omega
                clear hu
                have hml : m < l.length := by omega
                obtain ⟨h1, h2⟩ := HSU.out (m + 1) hj
                obtain ⟨s0, s1⟩ := sumT_bd HB2.out (m + 1) (l.length - (m + 1))
                have hlm := spans_at hml
                rw [HLL.out] at hlm
                obtain ⟨lo, hlo⟩ : ∃ z, sumLo (l.drop (m + 1)) = z := ⟨_, rfl⟩
                obtain ⟨hi', hhi⟩ : ∃ z, sumHi (l.drop (m + 1)) = z := ⟨_, rfl⟩
                rw [hlo] at hlm h1
                rw [hhi] at hlm h2
                obtain ⟨bs, os, rfl, _, c0, c1⟩ := SRow.get (r4.grow gV) hlm
                obtain ⟨y, hy, ⟨y0, y1⟩, bh, oh, rfl, ch⟩ : ∃ y, SB.getD m 0 = y ∧ (0 ≤ y ∧ y ≤ 1000) ∧ ∃ bh oh, a2 = some ⟨bh, oh, none⟩ ∧ wr.cell? ⟨bh, oh + m, none⟩ = some (.int .i64 y) := by
                  have hy : SB[m]? = some (SB[m]'(by rw [HlB.out]; exact hml)) := by simp
                  obtain ⟨bh, oh, e, _, ch⟩ := IRow.get (R2'.grow gV) hy
                  exact ⟨_, getD_of hy, HB2.out _ (List.mem_of_getElem? hy), bh, oh, e, ch⟩
                have hsn := Lib.hid (show sumT SB m (l.length - m) = sumT SB (m + 1) (l.length - (m + 1)) + y by
                  rw [show l.length - m = (l.length - (m + 1)) + 1 by omega, sumT_front, hy])
                clear hy
                clear hlm hlo hhi
                dsimp only at c0 c1
                generalize sumT SB (m + 1) (l.length - (m + 1)) = Sm at *
                have ws : IntKind.i64.wrap (Sm + y) = Sm + y := IntWalk.i64_in _ (by omega)
                have wm : IntKind.i64.wrap ((m : Int) - 1) = (m : Int) - 1 := IntWalk.i64_in _ (by omega)
                have d1 : decide (Sm < lo) = false := by simp; omega
                have d2 : decide (hi' < Sm) = false := by simp; omega
                have mlt : m < SB.length := by rw [HlB.out]; exact hml
                go_wp2
                go_roundw
                case rel => exact Lib.hid ⟨m, (m : Int) - 1, by omega, rfl, rfl, by rw [hsn.out], gV⟩
                case measure => simp [intOf]
              · obtain rfl : j = 0 := by omega
                obtain rfl : u = -1 := by omega
                clear hj0 hj hu
                replace gX := gX.tr gV
                clear gV
                by_cases hl0 : l.length = 0
                · have el : ((l.length : Int) == 0) = true := by simp [hl0]
                  go_wp2_with (go_at_call 16; refine (known_any _).mono ?_; rintro e v6 ⟨rfl, g6⟩)
                  go_ret
                  exact ⟨rfl, gV0.tr (gW.tr (gX.tr g6))⟩
                · have el : ((l.length : Int) == 0) = false := by simp [hl0]
                  obtain ⟨M, hM⟩ : ∃ M : Nat, (l.length : Int) - 1 = (M : Int) := ⟨l.length - 1, by omega⟩
                  rw [hM] at wl0
                  have M0 : M ≤ l.length := by omega
                  have M1 : M ≤ c := by omega
                  cases hP : fallO (l.take M) (untilL t days) with
                  | none =>
                    have F1 := HFa.out M
                    rw [fallV_none hP] at F1
                    have HF1 := Lib.hid F1
                    clear F1 hP
                    go_wp2_with (first
                      | (go_at_call 33; refine (HBx.out M _ M0 gX).mono ?_; rintro e v2 ⟨x1, y1, rfl, r1, g1⟩)
                      | (go_at_call 36; refine (HF1.out x1 _ y1 f _ M0 hf r1 (rT2.grow (gX.tr g1))).mono ?_; rintro e v3 ⟨rfl, g2⟩)
                      | (go_at_call 16; refine (known_any _).mono ?_; rintro e v6 ⟨rfl, g6⟩))
                    go_ret
                    exact ⟨rfl, gV0.tr (gW.tr (gX.tr (g1.tr (g2.tr g6))))⟩
                  | some q =>
                    obtain ⟨s2, i2⟩ := q
                    obtain ⟨s3, i3, hq1, hq2⟩ := fall_take (l := l) (fun x hx => (HL.out x hx).1.1.2.2.1) HTD.out M hP
                    rw [HO.out] at hq1
                    cases hq1
      | some q =>
        obtain ⟨sp, i⟩ := q
        have F0 := HFa.out l.length
        rw [List.take_length, fallV_some hO] at F0
        have HF0 := Lib.hid F0
        clear F0
        have hfo := falls_on (l := l) (S := S) (n := n) (days := days) HS.out (s := sp) (i := i) (by rw [HT.out]; exact hO)
        have hi2 := weakO_lt hfo.2.2
        obtain ⟨dy, hdy⟩ : ∃ d, sp.day = d := ⟨_, rfl⟩
        rw [hdy] at hfo HF0
        have dy0 := hfo.1
        have dy1 := hfo.2.1
        clear hfo
        have HDY := Lib.hid hdy
        have HS3 : Hid (∀ (W' : World), Gr wr W' → Calls Try.prog 54 #[.slice a3 l.length e3, .slice a4 l.length e4, .slice (some ⟨D, 0, none⟩) t.length f, .int .i64 dy] W' fun e w' => e = .returned (.tuple #[.bool false, .int .i64 (i : Int)]) ∧ Gr W' w') := Lib.hid (fun W' g => by
          have := HSc.out sp i W' hO g
          rw [hdy] at this
          exact this)
        clear hdy
        have HO := Lib.hid hO
        clear hO
        have tok0 : True := trivial
        go_upto_region 11 with (first
          | (have _t := tok0; clear tok0 _t; go_at_call 33; refine (HBx.out l.length _ (Nat.le_refl _) (Below.refl _ _)).mono ?_; rintro e w2 ⟨x1, y1, rfl, r1, g1⟩)
          | (go_at_call 34; refine (HSp.out _ g1).mono ?_; rintro e w3 ⟨x2, y2, rfl, r2, hy2, g2⟩)
          | (go_at_call 36; refine (HF0.out x1 x2 y1 y2 _ (Nat.le_refl _) hy2 (by have := r1.grow g2; rw [List.take_length] at this; exact this) r2).mono ?_; rintro e w4 ⟨rfl, g3⟩)
          | (go_at_call 33; refine (HBx.out l.length _ (Nat.le_refl _) (g1.tr (g2.tr g3))).mono ?_; rintro e w5 ⟨x3, y3, rfl, r3, g4⟩)
          | (go_at_call 35; refine (HLo.out x3 y3 _ r3).mono ?_; rintro e w6 ⟨x4, y4, rfl, r4, g5⟩))
        refine wp_abs (fun X => Gr wr X ∧ SRow X x4 LL) ⟨g1.tr (g2.tr (g3.tr (g4.tr g5))), r4⟩ ?_
        clear r1 r2 r3 r4 g1 g2 g3 g4 g5 HF0
        rintro X ⟨gX, r4⟩
        have j1 : decide (dy < 0) = false := by simp; omega
        have j2 : decide (days < dy) = false := by simp; omega
        have j3 : decide ((i : Int) < 0) = false := by simp
        have j4 : decide ((l.length : Int) ≤ (i : Int)) = false := by simp; omega
        have w20 : IntKind.i64.wrap (dy - 1) = dy - 1 := IntWalk.i64_in _ (by omega)
        obtain ⟨L, hL⟩ : ∃ L, dy - 1 = L := ⟨_, rfl⟩
        rw [hL] at w20
        have HDD : Hid (∀ d : Nat, (d : Int) ≤ L → (d : Int) ≤ days ∧ ∀ s i, fallO l (untilL t days) = some (s, i) → (d : Int) < s.day) := Lib.hid (fun d hd => ⟨by omega, fun s i h => by
          have e := HO.out
          rw [h] at e
          injection e with e
          injection e with e _
          rw [e, HDY.out]
          omega⟩)
        go_upto_region 15 with fail
        go_upto_region 17 with fail
        go_upto_region 18 with (go_at_call 54; refine (HS3.out _ gX).mono ?_; rintro e w7 ⟨rfl, g7⟩)
        go_upto_region 21 with fail
        clear j1 j2 j3 j4 HS3
        refine wp_abs (fun X' => Gr X X') g7 ?_
        clear g7
        intro Z gZ
        replace gX := gX.tr gZ
        replace r4 := r4.grow gZ
        clear gZ
        have L0 : -1 ≤ L := by omega
        have L1 : L ≤ 255 := by omega
        clear hL
        go_wp2
        go_loopw [24] (fun i wl => Hid (∃ d : Nat, (d : Int) ≤ L + 1 ∧ i = .int .i64 (d : Int) ∧ Gr Z wl)) (fun i _ => (L + 1 - intOf i).toNat)
        case atStart => exact Lib.hid ⟨0, by omega, rfl, Below.refl _ _⟩
        case round =>
          obtain ⟨d, hd, rfl, gZ⟩ := hrel.out
          clear hrel
          by_cases hlt : (d : Int) ≤ L
          · obtain ⟨hd1, hd2⟩ := HDD.out d hlt
            have HD2 := Lib.hid hd2
            clear hd2
            have tokd : True := trivial
            go_wp2_with (first
              | (have _t := tokd; clear tokd _t; go_at_call 54; refine (HSa.out (d : Int) _ (by omega) hd1 HD2.out (gX.tr gZ)).mono ?_; rintro e v1 ⟨rfl, g1⟩)
              | (go_at_call 54; refine (HSb.out (d : Int) _ (by omega) hd1 HD2.out (gX.tr (gZ.tr g1))).mono ?_; rintro e v2 ⟨rfl, g2⟩))
            go_roundw
            case rel => exact Lib.hid ⟨d + 1, by omega, by go_num, gZ.tr (g1.tr g2)⟩
            case measure => simp [intOf]; omega
          · have hdl : decide ((d : Int) ≤ L) = false := by simpa using hlt
            clear hd hlt HDD HSa HSb HSc
            replace gX := gX.tr gZ
            replace r4 := r4.grow gZ
            have R2' := R2.grow gX
            clear gZ
            have wl0 : IntKind.i64.wrap ((l.length : Int) - 1) = (l.length : Int) - 1 := IntWalk.i64_in _ (by omega)
            go_wp2
            go_loopw [30, 29] (fun i q wv => Hid (∃ (j : Nat) (u : Int), j ≤ l.length ∧ i = .int .i64 u ∧ u = (j : Int) - 1 ∧ q = .int .i64 (sumT SB j (l.length - j)) ∧ Gr wr wv)) (fun i _ _ => (intOf i + 1).toNat)
            case atStart => exact Lib.hid ⟨l.length, (l.length : Int) - 1, Nat.le_refl _, rfl, rfl, by rw [Nat.sub_self]; rfl, Below.refl _ _⟩
            case round =>
              obtain ⟨j, u, hj, rfl, hu, rfl, gV⟩ := hrel.out
              clear hrel
              by_cases hj0 : 0 < j
              · obtain ⟨m, rfl⟩ : ∃ m, j = m + 1 := ⟨j - 1, by omega⟩
                obtain rfl : u = (m : Int) := by omega
                clear hu
                have hml : m < l.length := by omega
                obtain ⟨h1, h2⟩ := HSU.out (m + 1) hj
                obtain ⟨s0, s1⟩ := sumT_bd HB2.out (m + 1) (l.length - (m + 1))
                have hlm := spans_at hml
                rw [HLL.out] at hlm
                obtain ⟨lo, hlo⟩ : ∃ z, sumLo (l.drop (m + 1)) = z := ⟨_, rfl⟩
                obtain ⟨hi', hhi⟩ : ∃ z, sumHi (l.drop (m + 1)) = z := ⟨_, rfl⟩
                rw [hlo] at hlm h1
                rw [hhi] at hlm h2
                obtain ⟨bs, os, rfl, _, c0, c1⟩ := SRow.get (r4.grow gV) hlm
                obtain ⟨y, hy, ⟨y0, y1⟩, bh, oh, rfl, ch⟩ : ∃ y, SB.getD m 0 = y ∧ (0 ≤ y ∧ y ≤ 1000) ∧ ∃ bh oh, a2 = some ⟨bh, oh, none⟩ ∧ wr.cell? ⟨bh, oh + m, none⟩ = some (.int .i64 y) := by
                  have hy : SB[m]? = some (SB[m]'(by rw [HlB.out]; exact hml)) := by simp
                  obtain ⟨bh, oh, e, _, ch⟩ := IRow.get (R2'.grow gV) hy
                  exact ⟨_, getD_of hy, HB2.out _ (List.mem_of_getElem? hy), bh, oh, e, ch⟩
                have hsn := Lib.hid (show sumT SB m (l.length - m) = sumT SB (m + 1) (l.length - (m + 1)) + y by
                  rw [show l.length - m = (l.length - (m + 1)) + 1 by omega, sumT_front, hy])
                clear hy
                clear hlm hlo hhi
                dsimp only at c0 c1
                generalize sumT SB (m + 1) (l.length - (m + 1)) = Sm at *
                have ws : IntKind.i64.wrap (Sm + y) = Sm + y := IntWalk.i64_in _ (by omega)
                have wm : IntKind.i64.wrap ((m : Int) - 1) = (m : Int) - 1 := IntWalk.i64_in _ (by omega)
                have d1 : decide (Sm < lo) = false := by simp; omega
                have d2 : decide (hi' < Sm) = false := by simp; omega
                have mlt : m < SB.length := by rw [HlB.out]; exact hml
                go_wp2
                go_roundw
                case rel => exact Lib.hid ⟨m, (m : Int) - 1, by omega, rfl, rfl, by rw [hsn.out], gV⟩
                case measure => simp [intOf]
              · obtain rfl : j = 0 := by omega
                obtain rfl : u = -1 := by omega
                clear hj0 hj hu
                replace gX := gX.tr gV
                clear gV
                by_cases hl0 : l.length = 0
                · omega
                · have el : ((l.length : Int) == 0) = false := by simp [hl0]
                  obtain ⟨M, hM⟩ : ∃ M : Nat, (l.length : Int) - 1 = (M : Int) := ⟨l.length - 1, by omega⟩
                  rw [hM] at wl0
                  have M0 : M ≤ l.length := by omega
                  have M1 : M ≤ c := by omega
                  cases hP : fallO (l.take M) (untilL t days) with
                  | none =>
                    have F1 := HFa.out M
                    rw [fallV_none hP] at F1
                    have HF1 := Lib.hid F1
                    clear F1 hP
                    go_wp2_with (first
                      | (go_at_call 33; refine (HBx.out M _ M0 gX).mono ?_; rintro e v2 ⟨x1, y1, rfl, r1, g1⟩)
                      | (go_at_call 36; refine (HF1.out x1 _ y1 f _ M0 hf r1 (rT2.grow (gX.tr g1))).mono ?_; rintro e v3 ⟨rfl, g2⟩)
                      | (go_at_call 16; refine (known_any _).mono ?_; rintro e v6 ⟨rfl, g6⟩))
                    go_ret
                    exact ⟨rfl, gV0.tr (gW.tr (gX.tr (g1.tr (g2.tr g6))))⟩
                  | some q =>
                    obtain ⟨s2, i2⟩ := q
                    obtain ⟨s3, i3, hq1, hq2⟩ := fall_take (l := l) (fun x hx => (HL.out x hx).1.1.2.2.1) HTD.out M hP
                    rw [HO.out] at hq1
                    injection hq1 with hq1
                    injection hq1 with hq1 _
                    rw [← hq1, HDY.out] at hq2
                    have F1 := HFa.out M
                    rw [fallV_some hP] at F1
                    have HF1 := Lib.hid F1
                    clear F1 hP hq1
                    generalize s2.day = dz at *
                    have dz1 : decide (dy ≤ dz) = true := by simpa using hq2
                    go_wp2_with (first
                      | (go_at_call 33; refine (HBx.out M _ M0 gX).mono ?_; rintro e v2 ⟨x1, y1, rfl, r1, g1⟩)
                      | (go_at_call 36; refine (HF1.out x1 _ y1 f _ M0 hf r1 (rT2.grow (gX.tr g1))).mono ?_; rintro e v3 ⟨rfl, g2⟩)
                      | (go_at_call 16; refine (known_any _).mono ?_; rintro e v6 ⟨rfl, g6⟩))
                    go_ret
                    exact ⟨rfl, gV0.tr (gW.tr (gX.tr (g1.tr (g2.tr g6))))⟩

end Go.Proofs.Ytjdeojpapdphoaa

namespace Go.Proofs.Ytjdeojpapdphoaa
set_option linter.unusedVariables false
set_option linter.unusedSimpArgs false
open Go.RowKit Go.ChangeShapes

section
variable {H : Type} {enc : TypeId × Value → H} {P : Program} {W W' : World}

theorem trodAll_stays (hl : laidOutB P = true) (g : Gr W W') {sp : Nat → Bool} : ∀ (ts : List TypeId) (vs : List Value) (ds : List (DataW H)) (ps : List MemPlace), (∀ t ∈ ts, P.readableRec t = true ∧ t < P.types.size) →
    DataW.TrodAll enc P W 0 (fun _ => true) true ts vs ds ps → (∀ p ∈ ps, p.block < W.heap.size) → (∀ p ∈ ps, sp p.block = true) → DataW.TrodAll enc P W' 0 sp true ts vs ds ps
  | [], [], [], _, _, h, _, _ => h
  | t :: ts, v :: vs, d :: ds, ps, ht, h, hlt, hsp => by
    obtain ⟨p, q, h1, h2, rfl⟩ := h
    exact ⟨p, q, WideElems.Trod_stays hl (ht t (by simp)).1 (ht t (by simp)).2 h1 (fun x hx => g.same (hlt x (by simp [hx]))) (fun x hx => hsp x (by simp [hx])),
      trodAll_stays hl g ts vs ds q (fun u hu => ht u (by simp [hu])) h2 (fun x hx => hlt x (by simp [hx])) (fun x hx => hsp x (by simp [hx])), rfl⟩

/-- A law that returned true in a world that only grew, its arguments as they were. -/
theorem law_true {f : Func} {s : ChangeSpec} {bt : TypeId} {args : Array Value} {ds : List (DataW H)} {p : List MemPlace}
    (hl : laidOutB P = true) (hpt : ∀ t ∈ f.params.toList, P.readableRec t = true ∧ t < P.types.size) (hbt : P.underlying bt = some .bool) (hrt : f.resultTypes = #[bt]) (hsv : s.vars = [])
    (hs : s.fn H ds = { results := [.lit (.bool true)], args := ds })
    (hW : DataW.Whole enc P f.params.toList s.vars false W args.toList ds [] p) (g : Gr W W') :
    s.post enc P f false true false false W args (.bool true) W' := by
  have hW0 := hW
  obtain ⟨pa, pv, hA, hV, hp, hfz, hnd⟩ := hW0
  rw [hsv] at hV
  have hpv : pv = [] := hV
  subst hpv
  rw [List.append_nil] at hp
  subst hp
  have hold : ∀ x ∈ p, x.block < W.heap.size := fun x hx => hW.lt x hx
  have hargs : ∀ sp : Nat → Bool, (∀ x ∈ p, sp x.block = true) → DataW.TrodAll enc P W' 0 sp true f.params.toList args.toList ds p := fun sp hsp => trodAll_stays hl g _ _ _ _ hpt hA hold hsp
  have hres : ∀ (b : Nat) (sp : Nat → Bool) (hd : Bool), DataW.TrodAll enc P W' b sp hd f.resultTypes.toList ((Value.bool true).resultList f.resultTypes.size) [.lit (.bool true)] [] := fun b sp hd => by
    rw [hrt]
    exact trodAll_cons_mk (shut_bool hbt _) trodAll_mk0
  have hok : ∀ (j : Nat) (t : TypeId) (r : Value), f.resultTypes[j]? = some t → ((Value.bool true).resultList f.resultTypes.size)[j]? = some r → Value.okWide P W' .any 0 t r := ok_one hrt rfl (okWide_bool_mk hbt _)
  have es : s.fn H (ds ++ []) = { results := [.lit (.bool true)], args := ds } := by rw [List.append_nil]; exact hs
  have hsp0 : ∀ x ∈ p, (fun b => decide (b < W.heap.size)) x.block = true := fun x hx => by simpa using hold x hx
  refine ⟨ds, [], p, [], p, [], hW, ?_, ?_, ?_, World.keptBut_mono (fun x hx => hx.elim) (g.frame (fun _ => False)), fun _ => ?_⟩
  · rw [es]; exact hres _ _ _
  · rw [es]; exact hargs _ hsp0
  · rw [es, hsv]; rfl
  · refine ⟨hok, [.lit (.bool true)] ++ ds, [], ([] ++ p) ++ [], ⟨[] ++ p, [], trodAll_append (hargs (fun _ => true) (fun _ _ => rfl)) (hres _ _ _), ?_, rfl, ?_, ?_⟩, ?_⟩
    · rw [hsv]; rfl
    · intro b off hx
      have hx' : MemPlace.cell b off ∈ p := by simpa using hx
      have hb : b < W.heap.size := hold _ hx'
      rw [g.frozen (p := ⟨b, off, none⟩) hb]
      exact hfz b off hx'
    · intro ha
      cases ha
    · intro x hx _
      simpa using hx

/-- Made of integers of kind k alone, cell by cell: by looking. -/
def allK (P : Program) (k : IntKind) : Nat → TypeId → Bool
  | 0, _ => false
  | f + 1, t => match P.underlying t with
    | some (.int k') => decide (k' = k) && decide (P.cellsOf t = 1)
    | some (.struct fs) => fs.toList.all (fun x => allK P k f x.type) && (List.range (P.cellsOf t)).all fun i => fs.toList.any fun x => decide (x.offset ≤ i) && decide (i < x.offset + P.cellsOf x.type)
    | some (.array n e) => allK P k f e && (List.range (P.cellsOf t)).all fun i => (List.range n).any fun j => decide (j * P.cellsOf e ≤ i) && decide (i < j * P.cellsOf e + P.cellsOf e)
    | _ => false

theorem piece {cs : List Value} {o n i : Nat} (h1 : o ≤ i) (h2 : i < o + n) : ((cs.drop o).take n)[i - o]? = cs[i]? := by
  rw [List.getElem?_take_of_lt (by omega), List.getElem?_drop, show o + (i - o) = i by omega]

theorem mapM_at {α β : Type} {f : α → Option β} : ∀ (l : List α) (ys : List β), l.mapM f = some ys → ∀ a ∈ l, ∃ y, f a = some y
  | [], _, _, a, ha => by cases ha
  | b :: l, ys, h, a, ha => by
    rw [List.mapM_cons] at h
    cases h1 : f b with
    | none => simp [h1] at h
    | some y =>
      cases h2 : l.mapM f with
      | none => simp [h1, h2] at h
      | some zs =>
        rcases List.mem_cons.1 ha with rfl | ha
        · exact ⟨y, h1⟩
        · exact mapM_at l zs h2 a ha

theorem int_open {k : IntKind} {base : Nat} {sp : Nat → Bool} {held : Bool} {t : TypeId} (hu : P.underlying t = some (.int k)) {fuel : Nat} {cs : List Value} {x : DataW H × List MemPlace} (hx : DataW.trod enc P W base sp held fuel t cs = some x) :
    ∃ n, cs = [.int k n] ∧ (Lit.int k n).wf = true := by
  obtain ⟨n, e, _, hw⟩ := DataW.trod_int hu hx
  exact ⟨n, e, hw⟩

theorem allK_open {k : IntKind} {base : Nat} {sp : Nat → Bool} {held : Bool} : ∀ (f : Nat) (t : TypeId), allK P k f t = true → ∀ (fuel : Nat) (cs : List Value) (x : DataW H × List MemPlace), DataW.trod enc P W base sp held fuel t cs = some x →
    cs.length = P.cellsOf t ∧ ∀ i, i < cs.length → ∃ n, cs[i]? = some (.int k n) ∧ (Lit.int k n).wf = true
  | 0, _, h, _, _, _, _ => by simp [allK] at h
  | f + 1, t, h, 0, cs, x, hx => by simp [DataW.trod] at hx
  | f + 1, t, h, fuel + 1, cs, x, hx => by
    unfold allK at h
    split at h
    · rename_i k' hu
      simp only [Bool.and_eq_true, decide_eq_true_eq] at h
      obtain ⟨rfl, hc⟩ := h
      obtain ⟨n, rfl, hw⟩ := int_open hu hx
      refine ⟨by rw [hc]; rfl, fun i hi => ?_⟩
      obtain rfl : i = 0 := by simpa using hi
      exact ⟨n, rfl, hw⟩
    · rename_i fs hu
      simp only [Bool.and_eq_true] at h
      obtain ⟨ha, hcov⟩ := h
      unfold DataW.trod at hx
      rw [hu] at hx
      simp only at hx
      split at hx
      case isFalse => cases hx
      rename_i hl
      refine ⟨hl, fun i hi => ?_⟩
      obtain ⟨xs, hxs, _⟩ := Option.map_eq_some_iff.1 hx
      have hci := List.all_eq_true.1 hcov i (by simp; omega)
      obtain ⟨fd, hfd, hin⟩ := List.any_eq_true.1 hci
      simp only [Bool.and_eq_true, decide_eq_true_eq] at hin
      obtain ⟨y, hy⟩ := mapM_at _ _ hxs fd hfd
      obtain ⟨hl', hat⟩ := allK_open f fd.type (List.all_eq_true.1 ha fd hfd) fuel _ y hy
      obtain ⟨n, hn, hw⟩ := hat (i - fd.offset) (by rw [hl']; omega)
      rw [piece hin.1 hin.2] at hn
      exact ⟨n, hn, hw⟩
    · rename_i m e hu
      simp only [Bool.and_eq_true] at h
      obtain ⟨ha, hcov⟩ := h
      unfold DataW.trod at hx
      rw [hu] at hx
      simp only at hx
      split at hx
      case isFalse => cases hx
      rename_i hl
      refine ⟨hl, fun i hi => ?_⟩
      obtain ⟨xs, hxs, _⟩ := Option.map_eq_some_iff.1 hx
      have hci := List.all_eq_true.1 hcov i (by simp; omega)
      obtain ⟨j, hj, hin⟩ := List.any_eq_true.1 hci
      simp only [Bool.and_eq_true, decide_eq_true_eq] at hin
      obtain ⟨y, hy⟩ := mapM_at _ _ hxs j hj
      obtain ⟨hl', hat⟩ := allK_open f e ha fuel _ y hy
      obtain ⟨n, hn, hw⟩ := hat (i - j * P.cellsOf e) (by rw [hl']; omega)
      rw [piece hin.1 hin.2] at hn
      exact ⟨n, hn, hw⟩
    · cases h

theorem ints_of {k : IntKind} : ∀ (cs : List Value), (∀ i, i < cs.length → ∃ n, cs[i]? = some (.int k n) ∧ (Lit.int k n).wf = true) → ∃ l : List Int, cs = l.map (Value.int k) ∧ ∀ n ∈ l, (Lit.int k n).wf = true
  | [], _ => ⟨[], rfl, by simp⟩
  | c :: cs, h => by
    obtain ⟨n, hn, hw⟩ := h 0 (by simp)
    obtain ⟨l, rfl, hl⟩ := ints_of cs (fun i hi => by simpa using h (i + 1) (by simpa using hi))
    simp only [List.getElem?_cons_zero, Option.some.injEq] at hn
    subst hn
    refine ⟨n :: l, rfl, fun m hm => ?_⟩
    rcases List.mem_cons.1 hm with rfl | hm
    · exact hw
    · exact hl m hm

/-- A struct or array by value, of integers of one kind: its integers. -/
theorem agg_ints {k : IntKind} {base : Nat} {sp : Nat → Bool} {held : Bool} {f : Nat} {t : TypeId} (ha : allK P k f t = true) (hc : P.cellsOf t ≠ 1) {v : Value} {d : DataW H} {ps : List MemPlace} (h : DataW.Trod enc P W base sp held t v d ps) :
    ∃ l : List Int, v = .agg (l.map (Value.int k)).toArray ∧ l.length = P.cellsOf t ∧ ∀ n ∈ l, (Lit.int k n).wf = true := by
  obtain ⟨fuel, hf⟩ := h
  obtain ⟨hl, hat⟩ := allK_open f t ha fuel _ _ hf
  obtain ⟨l, hcs, hw⟩ := ints_of _ hat
  have hlen : l.length = P.cellsOf t := by rw [← hl, hcs]; simp
  refine ⟨l, ?_, hlen, hw⟩
  unfold Value.cells at hcs hl
  split at hcs
  · rename_i cs
    rw [← hcs]
  · rename_i hna
    exfalso
    apply hc
    rw [← hlen]
    have := congrArg List.length hcs
    simpa using this.symm

/-- A slice of bytes that came in. -/
theorem row_bytes {e : TypeId} {t : TypeId} {r : Reach} {b0 : Nat} (ht : P.underlying t = some (.slice e)) (he : P.underlying e = some (.int .u8)) (hc : P.cellsOf e = 1) {v : Value} {d : DataW H} {ps : List MemPlace} (hval : Value.okWide P W r b0 t v)
    (h : DataW.Trod enc P W 0 (fun _ => true) true t v d ps) :
    ∃ (a : Option Addr) (l : List Int) (cap : Nat), v = .slice a l.length cap ∧ URow W a l ∧ Bytes l := by
  obtain ⟨fuel, hf⟩ := h
  obtain ⟨a0, len0, cap0, rfl⟩ := Go.WideShapes.okWide_slice ht hval
  rcases open_ints ht he hc hf with ⟨hcs, _⟩ | ⟨a, len, cap, zs, hcs, _, hle, hmax, hlen, _, hcell, hwf⟩
  · have hcs' : [Value.slice a0 len0 cap0] = [.slice none 0 0] := by simpa [Value.cells] using hcs
    cases hcs'
    exact ⟨none, [], 0, rfl, RowOf.nil, fun x hx => by cases hx⟩
  · have hcs' : [Value.slice a0 len0 cap0] = [.slice (some a) len cap] := by simpa [Value.cells] using hcs
    cases hcs'
    simp only [if_true] at hlen
    have hl : (zs.take len0).length = len0 := by simp; omega
    refine ⟨some a, zs.take len0, cap0, by rw [hl], ⟨by rw [hl]; exact Nat.le_trans hle hmax, fun j x hx => ?_⟩, fun x hx => bounds_u8 (hwf x (List.mem_of_mem_take hx))⟩
    have hj : j < len0 := by
      have := (List.getElem?_eq_some_iff.1 hx).1
      omega
    have hz : zs[j]? = some x := by
      rw [List.getElem?_take_of_lt hj] at hx
      exact hx
    have h0 := hcell 0 (by omega)
    rw [show a.add 0 = a by simp [Addr.add]] at h0
    have hb := World.block_lt_of_cell? W _ h0
    have hs : a.spot = none := by
      cases hsp : a.spot with
      | none => rfl
      | some q =>
        exfalso
        unfold World.cell? at h0
        split at h0
        · simp [hsp] at h0
        · cases h0
    obtain ⟨b, off, sp⟩ := a
    simp only at hs
    subst hs
    have h1 := hcell j (by omega)
    have e1 : zs.getD j 0 = x := by simp [hz]
    rw [e1, show (Addr.mk b off none).add j = ⟨b, off + j, none⟩ by unfold Addr.add; split <;> simp_all] at h1
    refine ⟨b, off, rfl, hb, fun i v hv => ?_⟩
    have hi : i = 0 := by
      have := (List.getElem?_eq_some_iff.1 hv).1
      simpa [encU] using this
    subst hi
    simp [encU] at hv
    subst hv
    simpa using h1

end

end Go.Proofs.Ytjdeojpapdphoaa

namespace Go.Proofs.Ytjdeojpapdphoaa
set_option linter.unusedVariables false
set_option linter.unusedSimpArgs false
open Go.RowKit

/-- A board is handed back. -/
def MadePost (mp mf : List Int) (w : World) (e : Ending) (w' : World) : Prop := ∃ a ac g gc, e = .returned (.agg #[.slice a mp.length ac, .slice g mf.length gc]) ∧ Gr w w' ∧ IRow w' a mp ∧ IRow w' g mf ∧ NewAt w.heap.size a ∧ NewAt w.heap.size g

/-- A blank is handed back. -/
def BlankPost (tab hei slo : Int) (pan top bot : List Int) (opn : Bool) (w : World) (e : Ending) (w' : World) : Prop :=
  ∃ pa pc ta tc ba bc, e = .returned (.agg #[.int .i64 tab, .slice pa pan.length pc, .int .i64 hei, .slice ta top.length tc, .slice ba bot.length bc, .int .i64 slo, .bool opn]) ∧ Gr w w' ∧ IRow w' pa pan ∧ IRow w' ta top ∧ IRow w' ba bot ∧ NewAt w.heap.size pa ∧ NewAt w.heap.size ta ∧ NewAt w.heap.size ba

end Go.Proofs.Ytjdeojpapdphoaa

namespace Go.Proofs.Ytjdeojpapdphoaa
set_option linter.unusedVariables false
set_option linter.unusedSimpArgs false
open Go.RowKit

/-- A store is handed back. -/
def StorePost (ps : List Paper) (fs : List Flute) (w : World) (e : Ending) (w' : World) : Prop := ∃ a ac g gc, e = .returned (.agg #[.slice a ps.length ac, .slice g fs.length gc]) ∧ Gr w w' ∧ PRow w' a ps ∧ FRow w' g fs ∧ NewAt w.heap.size a ∧ NewAt w.heap.size g

theorem ne_of_at {x y g H : Nat} (h : some x = some g ∨ g = H) (hx : x ≠ y) (hH : H ≠ y) : g ≠ y := by
  rcases h with h | h
  · injection h with h
    omega
  · omega

theorem oneP (x : Paper) : ∀ u ∈ encP x, u.oneCell' = true := by
  intro u hu
  simp only [encP, List.mem_cons, List.not_mem_nil, or_false] at hu
  rcases hu with rfl | rfl | rfl | rfl | rfl | rfl | rfl | rfl <;> rfl

theorem oneF (x : Flute) : ∀ u ∈ encF x, u.oneCell' = true := by
  intro u hu
  simp only [encF, List.mem_cons, List.not_mem_nil, or_false] at hu
  rcases hu with rfl | rfl | rfl | rfl <;> rfl

theorem Own.grownRow {w w' : World} {b : Nat} {vs : List Value} {row : Option Nat} (h : Own w b vs) (g : w.grownBy w' row) (hne : ∀ r, row = some r → b ≠ r) : Own w' b vs := by
  have hb := g.block b h.1.1 (fun e => hne b e.symm rfl)
  exact ⟨⟨Nat.lt_of_lt_of_le h.1.1 g.size, fun i v hv => (World.cell?_of_block (w := w) (a := ⟨b, i, none⟩) hb).trans (h.1.2 i v hv)⟩, fun i => (World.frozen?_of_block (w := w) (a := ⟨b, i, none⟩) hb).trans (h.2 i)⟩

end Go.Proofs.Ytjdeojpapdphoaa

namespace Go.Proofs.Ytjdeojpapdphoaa
set_option linter.unusedVariables false
set_option linter.unusedSimpArgs false
open Go.RowKit

def HeldP (b : Nat) (y0 y1 y2 y3 : Int) (c : Nat) (pv : Value) (w' : World) : Prop := w'.cell? ⟨b, 0, none⟩ = some (.int .u8 y0) ∧ w'.cell? ⟨b, 1, none⟩ = some (.int .u8 y1) ∧ w'.cell? ⟨b, 2, none⟩ = some (.int .u8 y2) ∧ w'.cell? ⟨b, 3, none⟩ = some (.int .u8 y3) ∧ w'.cell? ⟨c, 0, none⟩ = some pv

def HeldF (b : Nat) (y2 : Int) (c : Nat) (pv : Value) (w' : World) : Prop := w'.cell? ⟨b, 2, none⟩ = some (.int .u8 y2) ∧ w'.cell? ⟨c, 1, none⟩ = some pv

def fpaper (v0 v1 v2 v3 : Int) (k : Int) : Paper := ⟨1 + k % 2, 80 + v0, 100 + v1, 100 + v1 + v2 % 60, v3 % 90, v3 % 90 + v2 % 20, 2000 * v0, 5 * v1⟩

def fflute (v0 v1 v2 : Int) : Flute := ⟨2000 + 20 * v0, 2000 + 20 * v0 + (2000 + 20 * v0) * v2 / 400, 1000 + 8 * v1, 1000 + 8 * v1 + v2 % 200⟩

def storeP (x0 x1 x2 x3 x4 x5 x6 x7 x8 x9 x10 x11 : Int) : List Paper := [fpaper x0 x1 x2 x3 0, fpaper x4 x5 x6 x7 1, fpaper x8 x9 x10 x11 2]

def storeF (x12 x13 x14 x15 x16 x17 : Int) : List Flute := [fflute x12 x13 x14, fflute x15 x16 x17]

def Byt (n : Int) : Prop := 0 ≤ n ∧ n ≤ 255

theorem owns_other {w : World} {base : Nat} {e : TypeId} {sz : Nat} {v : Value} {n : Nat} {xs : List Value} {c i : Nat} {u : Value} (h : w.ownsRow base e sz v n xs) (hc : c < base) : (w.setCell ⟨c, i, none⟩ u).ownsRow base e sz v n xs := by
  obtain ⟨h1, h2⟩ := h
  refine ⟨h1, ?_⟩
  rcases h2 with h2 | ⟨b, cap, cur, hv, hb, hh, r⟩
  · exact .inl h2
  · exact .inr ⟨b, cap, cur, hv, hb, (Below.heap_setCell _ _ _ _ (show b ≠ c by omega)).trans hh, r⟩

theorem Box.c3 {w : World} {b : Nat} {x0 x1 x2 : Value} (h : Box w b [x0, x1, x2]) : w.cell? ⟨b, 0, none⟩ = some x0 ∧ w.cell? ⟨b, 1, none⟩ = some x1 ∧ w.cell? ⟨b, 2, none⟩ = some x2 := ⟨h.2 0 x0 rfl, h.2 1 x1 rfl, h.2 2 x2 rfl⟩

theorem Box.other {w : World} {b c i : Nat} {vs : List Value} {v : Value} (h : Box w c vs) (hne : c ≠ b) : Box (w.setCell ⟨b, i, none⟩ v) c vs :=
  ⟨by simpa using h.1, fun j u hu => by rw [cell_set_ne v (.inl hne)]; exact h.2 j u hu⟩

end Go.Proofs.Ytjdeojpapdphoaa

namespace Go.Proofs.Ytjdeojpapdphoaa
set_option linter.unusedVariables false
set_option linter.unusedSimpArgs false
open Go.RowKit

structure V6 where
  a : Int
  b : Int
  c : Int
  d : Int
  e : Int
  f : Int

structure V3 where
  a : Int
  b : Int
  c : Int

def encV6 (v : V6) : List Value := [.int .u8 v.a, .int .u8 v.b, .int .u8 v.c, .int .u8 v.d, .int .u8 v.e, .int .u8 v.f]

def encV3 (v : V3) : List Value := [.int .u8 v.a, .int .u8 v.b, .int .u8 v.c]

abbrev Row6 := RowOf 6 encV6

abbrev Row3 := RowOf 3 encV3

def isB (n : Int) : Prop := 0 ≤ n ∧ n ≤ 255

def B6 (v : V6) : Prop := isB v.a ∧ isB v.b ∧ isB v.c ∧ isB v.d ∧ isB v.e ∧ isB v.f

def B3 (v : V3) : Prop := isB v.a ∧ isB v.b ∧ isB v.c

def npW (n : Nat) : Nat := if n ≤ 2 then 2 else if n ≤ 5 then n else 5

def nfW (n : Nat) : Nat := if n = 0 then 1 else if n ≤ 3 then n else 3

def wareP (P : List V6) (i : Nat) : V6 := match P[i]? with | some v => v | none => ⟨i, 120, 20, 7, 30, 20⟩

def wareF (F : List V3) (i : Nat) : V3 := match F[i]? with | some v => v | none => ⟨80, 128, 36⟩

def paperW (k : Nat) (v : V6) : Paper := ⟨if 1 < k then 1 + v.a % 2 else 1 + k, 50 + v.b, 50 + v.c, 50 + v.c + v.a / 8, v.d % 100, v.d % 100 + v.d / 16, 1000 * v.e, 10 * v.f⟩

def fluteW (v : V3) : Flute := ⟨1000 + 35 * v.a, 1000 + 35 * v.a + (1000 + 35 * v.a) * v.b / 255, 500 + 10 * v.c, 500 + 10 * v.c + v.b % 90⟩

def storeWP (P : List V6) : List Paper := (List.range (npW P.length)).map fun i => paperW i (wareP P i)

def storeWF (F : List V3) : List Flute := (List.range (nfW F.length)).map fun i => fluteW (wareF F i)

theorem storeWP_len (P : List V6) : (storeWP P).length = npW P.length := by simp [storeWP]

theorem storeWF_len (F : List V3) : (storeWF F).length = nfW F.length := by simp [storeWF]

theorem npW_bd (n : Nat) : 2 ≤ npW n ∧ npW n ≤ 5 := by unfold npW; split <;> (try split) <;> omega

theorem nfW_bd (n : Nat) : 1 ≤ nfW n ∧ nfW n ≤ 3 := by unfold nfW; split <;> (try split) <;> omega

theorem storeWP_at {P : List V6} {k : Nat} (h : k < npW P.length) : (storeWP P)[k]? = some (paperW k (wareP P k)) := by
  unfold storeWP
  rw [List.getElem?_map, List.getElem?_range h]
  rfl

theorem storeWF_at {F : List V3} {k : Nat} (h : k < nfW F.length) : (storeWF F)[k]? = some (fluteW (wareF F k)) := by
  unfold storeWF
  rw [List.getElem?_map, List.getElem?_range h]
  rfl

theorem wareP_B {P : List V6} (hP : ∀ v ∈ P, B6 v) {k : Nat} (hk : k < 5) : B6 (wareP P k) := by
  unfold wareP
  cases h : P[k]? with
  | some v => exact hP v (List.mem_of_getElem? h)
  | none => simp only [B6, isB]; omega

theorem wareF_B {F : List V3} (hF : ∀ v ∈ F, B3 v) (k : Nat) : B3 (wareF F k) := by
  unfold wareF
  cases h : F[k]? with
  | some v => exact hF v (List.mem_of_getElem? h)
  | none => simp only [B3, isB]; omega

theorem u8_small {k : Nat} (h : k < 5) : IntKind.u8.wrap (k : Int) = k := by
  have h5 : k = 0 ∨ k = 1 ∨ k = 2 ∨ k = 3 ∨ k = 4 := by omega
  rcases h5 with rfl | rfl | rfl | rfl | rfl <;> rfl

theorem owns_val {w : World} {base : Nat} {e : TypeId} {sz : Nat} {v : Value} {n : Nat} {xs : List Value} (h : w.ownsRow base e sz v n xs) : ∃ a cap, v = .slice a n cap := by
  obtain ⟨h1, h2⟩ := h
  rcases h2 with ⟨hv, hn⟩ | ⟨b, cap, cur, hv, _⟩
  · exact ⟨none, 0, by rw [hv, hn]⟩
  · exact ⟨some ⟨b, 0, none⟩, cap, hv⟩

theorem Own.news {v : World} {b : Nat} {vs : List Value} (h : Own v b vs) : ∀ (j : Nat) (u : Value), vs[j]? = some u → v.cell? ((⟨b, 0, none⟩ : Addr).add j) = some u := by
  intro j u hu
  have hc := h.1.2 j u hu
  unfold Addr.add
  split
  · rename_i h0
    subst h0
    exact hc
  · simpa using hc

end Go.Proofs.Ytjdeojpapdphoaa

namespace Go.Proofs.Ytjdeojpapdphoaa
set_option linter.unusedVariables false
set_option linter.unusedSimpArgs false
open Go.RowKit Go.ChangeShapes

theorem list_of {α : Type} (p : Nat → α → Prop) : ∀ n, (∀ j, j < n → ∃ x, p j x) → ∃ l : List α, l.length = n ∧ ∀ j x, l[j]? = some x → p j x
  | 0, _ => ⟨[], rfl, fun j x h => by simp at h⟩
  | n + 1, h => by
    obtain ⟨l, hl, hp⟩ := list_of p n (fun j hj => h j (by omega))
    obtain ⟨x, hx⟩ := h n (by omega)
    refine ⟨l ++ [x], by simp [hl], fun j y hy => ?_⟩
    by_cases hj : j < l.length
    · rw [List.getElem?_append_left hj] at hy
      exact hp j y hy
    · rw [List.getElem?_append_right (by omega)] at hy
      have h1 := (List.getElem?_eq_some_iff.1 hy).1
      simp at h1
      obtain rfl : j = n := by omega
      simp [hl] at hy
      subst hy
      exact hx

section
variable {H : Type} {enc : TypeId × Value → H} {P : Program} {W : World}

/-- A slice of arrays of integers of one kind. -/
theorem row_flat {α : Type} {en : α → List Value} {G : α → Prop} {e t : TypeId} {k : IntKind} {f sz fuel : Nat} {cs : List Value} {x : DataW H × List MemPlace} (ht : P.underlying t = some (.slice e)) (ha : allK P k f e = true) (hc : P.cellsOf e = sz) (h0 : 0 < sz)
    (hmk : ∀ l : List Int, l.length = sz → (∀ n ∈ l, (Lit.int k n).wf = true) → ∃ y : α, en y = l.map (Value.int k) ∧ G y)
    (hx : DataW.trod enc P W 0 (fun _ => true) true fuel t cs = some x) :
    ∃ (a : Option Addr) (l : List α) (cap : Nat), cs = [.slice a l.length cap] ∧ RowOf sz en W a l ∧ ∀ v ∈ l, G v := by
  rcases DataW.trod_slice ht hx with ⟨h, _⟩ | ⟨a, len, cap, elems, rest, n, _, rfl, _, hb, hl, hm, hlen, hel, _, _⟩
  · exact ⟨none, [], 0, h, RowOf.nil, fun v hv => by cases hv⟩
  have hj : ∀ j, j < len → ∃ y : α, G y ∧ ∃ l : List Int, l.length = sz ∧ en y = l.map (Value.int k) ∧ ∀ i, i < sz → W.cell? ((a.add (j * sz)).add i) = (l.map (Value.int k))[i]? := by
    intro j hj
    have h1 := hel j hj
    rw [List.getElem?_eq_getElem (by omega)] at h1
    obtain ⟨cs', hcs, hy⟩ := Option.bind_eq_some_iff.1 h1
    obtain ⟨hl', hat⟩ := allK_open f e ha _ _ _ hy
    obtain ⟨l, hcl, hw⟩ := ints_of _ hat
    have hll : l.length = sz := by rw [← hc, ← hl', hcl]; simp
    obtain ⟨y, hy1, hy2⟩ := hmk l hll hw
    refine ⟨y, hy2, l, hll, hy1, fun i hi => ?_⟩
    have := (World.cells?_some hcs).2.2 i (by omega)
    rw [hc, hcl] at this
    exact this
  obtain ⟨l, hlen', hp⟩ := list_of _ len hj
  refine ⟨some a, l, cap, by rw [hlen'], ⟨?_, fun j y hy => ?_⟩, fun v hv => ?_⟩
  · rw [hlen']
    have : maxLen ≤ 9223372036854775807 := by decide
    omega
  · obtain ⟨_, li, hli, hen, hcell⟩ := hp j y hy
    have z0 := hcell 0 h0
    have hi0 : (li.map (Value.int k))[0]? = some (.int k (li[0]'(by omega))) := by simp [List.getElem?_eq_getElem (show 0 < li.length by omega)]
    rw [hi0, show (a.add (j * sz)).add 0 = a.add (j * sz) by simp [Addr.add]] at z0
    have hs : a.spot = none := by
      cases hsp : a.spot with
      | none => rfl
      | some q =>
        exfalso
        have hj0 : j < len := by have := (List.getElem?_eq_some_iff.1 hy).1; omega
        obtain ⟨_, _, li0, hli0, _, hc0⟩ := hj 0 (by omega)
        have z1 := hc0 0 h0
        have hi1 : (li0.map (Value.int k))[0]? = some (.int k (li0[0]'(by omega))) := by simp [List.getElem?_eq_getElem (show 0 < li0.length by omega)]
        rw [hi1, show (a.add (0 * sz)).add 0 = a by simp [Addr.add]] at z1
        unfold World.cell? at z1
        split at z1
        · simp [hsp] at z1
        · cases z1
    obtain ⟨b, off, sp⟩ := a
    simp only at hs
    subst hs
    refine ⟨b, off, rfl, ?_, fun i v hv => ?_⟩
    · have := World.block_lt_of_cell? W _ z0
      rw [WideShapes.add_plain] at this
      exact this
    · have hi : i < sz := by
        have := (List.getElem?_eq_some_iff.1 hv).1
        rw [hen] at this
        simpa [hli] using this
      have := hcell i hi
      rw [WideShapes.add_plain, WideShapes.add_plain, ← hen, hv] at this
      exact this
  · obtain ⟨j, hjv⟩ := List.getElem?_of_mem hv
    exact (hp j v hjv).1

/-- A struct of three slices: each by itself. -/
theorem struct3 {t t0 t1 t2 : TypeId} {fs : Array Field} {fuel : Nat} {cs : List Value} {x : DataW H × List MemPlace} (hu : P.underlying t = some (.struct fs)) (ct : P.cellsOf t = 3) (c0 : P.cellsOf t0 = 1) (c1 : P.cellsOf t1 = 1) (c2 : P.cellsOf t2 = 1)
    (m0 : ∃ g ∈ fs.toList, g.type = t0 ∧ g.offset = 0) (m1 : ∃ g ∈ fs.toList, g.type = t1 ∧ g.offset = 1) (m2 : ∃ g ∈ fs.toList, g.type = t2 ∧ g.offset = 2)
    (hx : DataW.trod enc P W 0 (fun _ => true) true fuel t cs = some x) :
    ∃ s0 s1 s2 n x0 x1 x2, cs = [s0, s1, s2] ∧ DataW.trod enc P W 0 (fun _ => true) true n t0 [s0] = some x0 ∧ DataW.trod enc P W 0 (fun _ => true) true n t1 [s1] = some x1 ∧ DataW.trod enc P W 0 (fun _ => true) true n t2 [s2] = some x2 := by
  cases fuel with
  | zero => simp [DataW.trod] at hx
  | succ n =>
    unfold DataW.trod at hx
    rw [hu] at hx
    simp only at hx
    split at hx
    case isFalse => cases hx
    rename_i hl
    obtain ⟨xs, hxs, _⟩ := Option.map_eq_some_iff.1 hx
    rw [ct] at hl
    obtain ⟨s0, s1, s2, rfl⟩ : ∃ s0 s1 s2, cs = [s0, s1, s2] := by
      match cs, hl with
      | [s0, s1, s2], _ => exact ⟨s0, s1, s2, rfl⟩
    obtain ⟨g0, hg0, e0, o0⟩ := m0
    obtain ⟨g1, hg1, e1, o1⟩ := m1
    obtain ⟨g2, hg2, e2, o2⟩ := m2
    obtain ⟨y0, hy0⟩ := mapM_at _ _ hxs g0 hg0
    obtain ⟨y1, hy1⟩ := mapM_at _ _ hxs g1 hg1
    obtain ⟨y2, hy2⟩ := mapM_at _ _ hxs g2 hg2
    rw [e0, o0, c0] at hy0
    rw [e1, o1, c1] at hy1
    rw [e2, o2, c2] at hy2
    exact ⟨s0, s1, s2, n, y0, y1, y2, rfl, hy0, hy1, hy2⟩

end

theorem mk6 (l : List Int) (hl : l.length = 6) (hw : ∀ n ∈ l, (Lit.int .u8 n).wf = true) : ∃ y : V6, encV6 y = l.map (Value.int .u8) ∧ B6 y := by
  match l, hl with
  | [a, b, c, d, e, f], _ => exact ⟨⟨a, b, c, d, e, f⟩, rfl, bounds_u8 (hw a (by simp)), bounds_u8 (hw b (by simp)), bounds_u8 (hw c (by simp)), bounds_u8 (hw d (by simp)), bounds_u8 (hw e (by simp)), bounds_u8 (hw f (by simp))⟩

theorem mk3 (l : List Int) (hl : l.length = 3) (hw : ∀ n ∈ l, (Lit.int .u8 n).wf = true) : ∃ y : V3, encV3 y = l.map (Value.int .u8) ∧ B3 y := by
  match l, hl with
  | [a, b, c], _ => exact ⟨⟨a, b, c⟩, rfl, bounds_u8 (hw a (by simp)), bounds_u8 (hw b (by simp)), bounds_u8 (hw c (by simp))⟩

theorem mk1 (l : List Int) (hl : l.length = 1) (hw : ∀ n ∈ l, (Lit.int .u8 n).wf = true) : ∃ y : Int, encU y = l.map (Value.int .u8) ∧ (0 ≤ y ∧ y ≤ 255) := by
  match l, hl with
  | [a], _ => exact ⟨a, rfl, bounds_u8 (hw a (by simp))⟩

end Go.Proofs.Ytjdeojpapdphoaa

namespace Go.Proofs.Ytjdeojpapdphoaa
set_option linter.unusedVariables false
set_option linter.unusedSimpArgs false
open Go.RowKit Go.ChangeShapes

/-- The pieces of a struct. -/
theorem struct_piece {H : Type} {enc : TypeId × Value → H} {P : Program} {W : World} {t : TypeId} {fs : Array Field} {fuel : Nat} {cs : List Value} {x : DataW H × List MemPlace} (hu : P.underlying t = some (.struct fs))
    (hx : DataW.trod enc P W 0 (fun _ => true) true fuel t cs = some x) :
    cs.length = P.cellsOf t ∧ ∃ n, ∀ g ∈ fs.toList, ∃ y, DataW.trod enc P W 0 (fun _ => true) true n g.type ((cs.drop g.offset).take (P.cellsOf g.type)) = some y := by
  cases fuel with
  | zero => simp [DataW.trod] at hx
  | succ n =>
    unfold DataW.trod at hx
    rw [hu] at hx
    simp only at hx
    split at hx
    case isFalse => cases hx
    rename_i hl
    obtain ⟨xs, hxs, _⟩ := Option.map_eq_some_iff.1 hx
    exact ⟨hl, n, fun g hg => mapM_at _ _ hxs g hg⟩

theorem mk2 (l : List Int) (hl : l.length = 2) (hw : ∀ n ∈ l, (Lit.int .u8 n).wf = true) : ∃ y : V2, encV2 y = l.map (Value.int .u8) ∧ B2 y := by
  match l, hl with
  | [a, b], _ => exact ⟨⟨a, b⟩, rfl, bounds_u8 (hw a (by simp)), bounds_u8 (hw b (by simp))⟩

set_option maxRecDepth 100000 in
theorem lot_open {H : Type} {enc : TypeId × Value → H} {W : World} {fuel : Nat} {cs : List Value} {x : DataW H × List MemPlace} (hx : DataW.trod enc Try.prog W 0 (fun _ => true) true fuel 83 cs = some x) :
    ∃ (r0 r1 r2 r3 of : Int) (T : List V2) (ta : Option Addr) (tc : Nat), cs = [.int .u8 r0, .int .u8 r1, .int .u8 r2, .int .u8 r3, .int .u8 of, .slice ta T.length tc] ∧ (0 ≤ r0 ∧ r0 ≤ 255) ∧ (0 ≤ r1 ∧ r1 ≤ 255) ∧ (0 ≤ r2 ∧ r2 ≤ 255) ∧ (0 ≤ r3 ∧ r3 ≤ 255) ∧ (0 ≤ of ∧ of ≤ 255) ∧ Row2 W ta T ∧ ∀ v ∈ T, B2 v := by
  obtain ⟨hl, n, hp⟩ := struct_piece Try.underlying83 hx
  rw [show Try.prog.cellsOf 83 = 6 from by kernel_rfl] at hl
  obtain ⟨c0, c1, c2, c3, c4, c5, rfl⟩ : ∃ c0 c1 c2 c3 c4 c5, cs = [c0, c1, c2, c3, c4, c5] := by
    match cs, hl with
    | [c0, c1, c2, c3, c4, c5], _ => exact ⟨c0, c1, c2, c3, c4, c5, rfl⟩
  obtain ⟨y0, h0⟩ := hp _ List.mem_cons_self
  obtain ⟨y1, h1⟩ := hp _ (List.mem_cons_of_mem _ List.mem_cons_self)
  obtain ⟨y2, h2⟩ := hp _ (List.mem_cons_of_mem _ (List.mem_cons_of_mem _ List.mem_cons_self))
  have h0' : DataW.trod enc Try.prog W 0 (fun _ => true) true n 80 [c0, c1, c2, c3] = some y0 := by
    have e : Try.prog.cellsOf 80 = 4 := by kernel_rfl
    simpa only [List.drop_zero, e, List.take_succ_cons, List.take_zero] using h0
  have h1' : DataW.trod enc Try.prog W 0 (fun _ => true) true n 5 [c4] = some y1 := by
    have e : Try.prog.cellsOf 5 = 1 := by kernel_rfl
    simpa only [List.drop_succ_cons, List.drop_zero, e, List.take_succ_cons, List.take_zero] using h1
  have h2' : DataW.trod enc Try.prog W 0 (fun _ => true) true n 81 [c5] = some y2 := by
    have e : Try.prog.cellsOf 81 = 1 := by kernel_rfl
    simpa only [List.drop_succ_cons, List.drop_zero, e, List.take_succ_cons, List.take_zero] using h2
  obtain ⟨_, hat⟩ := allK_open (k := .u8) 5 80 (by kernel_rfl) _ _ _ h0'
  obtain ⟨l, hcs, hw⟩ := ints_of _ hat
  obtain ⟨of, e4, hof⟩ := int_open Try.underlying5 h1'
  obtain ⟨ta, T, tc, e5, rT, hT⟩ := row_flat (f := 5) (en := encV2) (G := B2) Try.underlying81 (k := .u8) (by kernel_rfl) (by kernel_rfl) (by decide) mk2 h2'
  obtain ⟨r0, r1, r2, r3, rfl⟩ : ∃ r0 r1 r2 r3, l = [r0, r1, r2, r3] := by
    have hl4 : l.length = 4 := by
      have := congrArg List.length hcs
      simpa using this.symm
    match l, hl4 with
    | [r0, r1, r2, r3], _ => exact ⟨r0, r1, r2, r3, rfl⟩
  simp only [List.map_cons, List.map_nil, List.cons.injEq, and_true] at hcs e4 e5
  obtain ⟨rfl, rfl, rfl, rfl⟩ := hcs
  subst e4
  subst e5
  exact ⟨r0, r1, r2, r3, of, T, ta, tc, rfl, bounds_u8 (hw r0 (by simp)), bounds_u8 (hw r1 (by simp)), bounds_u8 (hw r2 (by simp)), bounds_u8 (hw r3 (by simp)), bounds_u8 hof, rT, hT⟩

end Go.Proofs.Ytjdeojpapdphoaa

namespace Go.Proofs.Ytjdeojpapdphoaa
set_option linter.unusedVariables false
set_option linter.unusedSimpArgs false
open Go.RowKit Go.ChangeShapes

theorem mk4 (l : List Int) (hl : l.length = 4) (hw : ∀ n ∈ l, (Lit.int .u8 n).wf = true) : ∃ y : V4, encV4 y = l.map (Value.int .u8) ∧ B4 y := by
  match l, hl with
  | [a, b, c, d], _ => exact ⟨⟨a, b, c, d⟩, rfl, bounds_u8 (hw a (by simp)), bounds_u8 (hw b (by simp)), bounds_u8 (hw c (by simp)), bounds_u8 (hw d (by simp))⟩

set_option maxRecDepth 100000 in
theorem pile_open {H : Type} {enc : TypeId × Value → H} {W : World} {fuel : Nat} {cs : List Value} {x : DataW H × List MemPlace} (hx : DataW.trod enc Try.prog W 0 (fun _ => true) true fuel 105 cs = some x) :
    ∃ (X : List V4) (xa : Option Addr) (xc : Nat) (S : List V2) (sa : Option Addr) (sc : Nat), cs = [.slice xa X.length xc, .slice sa S.length sc] ∧ Row4 W xa X ∧ (∀ v ∈ X, B4 v) ∧ Row2 W sa S ∧ ∀ v ∈ S, B2 v := by
  obtain ⟨hl, n, hp⟩ := struct_piece Try.underlying105 hx
  rw [show Try.prog.cellsOf 105 = 2 from by kernel_rfl] at hl
  obtain ⟨c0, c1, rfl⟩ : ∃ c0 c1, cs = [c0, c1] := by
    match cs, hl with
    | [c0, c1], _ => exact ⟨c0, c1, rfl⟩
  obtain ⟨y0, h0⟩ := hp _ List.mem_cons_self
  obtain ⟨y1, h1⟩ := hp _ (List.mem_cons_of_mem _ List.mem_cons_self)
  have h0' : DataW.trod enc Try.prog W 0 (fun _ => true) true n 103 [c0] = some y0 := by
    have e : Try.prog.cellsOf 103 = 1 := by kernel_rfl
    simpa only [List.drop_zero, e, List.take_succ_cons, List.take_zero] using h0
  have h1' : DataW.trod enc Try.prog W 0 (fun _ => true) true n 81 [c1] = some y1 := by
    have e : Try.prog.cellsOf 81 = 1 := by kernel_rfl
    simpa only [List.drop_succ_cons, List.drop_zero, e, List.take_succ_cons, List.take_zero] using h1
  obtain ⟨xa, X, xc, e4, rX, hX⟩ := row_flat (f := 5) (en := encV4) (G := B4) Try.underlying103 (k := .u8) (by kernel_rfl) (by kernel_rfl) (by decide) mk4 h0'
  obtain ⟨sa, S, sc, e5, rS, hS⟩ := row_flat (f := 5) (en := encV2) (G := B2) Try.underlying81 (k := .u8) (by kernel_rfl) (by kernel_rfl) (by decide) mk2 h1'
  simp only [List.cons.injEq, and_true] at e4 e5
  subst e4
  subst e5
  exact ⟨X, xa, xc, S, sa, sc, rfl, rX, hX, rS, hS⟩

end Go.Proofs.Ytjdeojpapdphoaa
