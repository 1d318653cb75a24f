/- The caliper of a board in a truth by bytes lies between the ends of its span, which it reaches. -/
import Derived.Test.YtbohjmogpiaejaaP6
import Derived.Test.YtbohjmogpiaejaaV9
namespace Go.Proofs.Ytbohjmogpiaejaa
set_option linter.unusedVariables false
set_option linter.unusedSimpArgs false
open Go.RowKit

def endAt (up : Bool) (ps : List Paper) (fs : List Flute) (mp mf : List Int) (k : Nat) : Int :=
  if k % 2 = 0 then endOf up (paperN ps (mp.getD k 0)).tlo (paperN ps (mp.getD k 0)).thi else endOf up (fluteAt fs mf (k / 2)).hlo (fluteAt fs mf (k / 2)).hhi
def endTo (up : Bool) (ps : List Paper) (fs : List Flute) (mp mf : List Int) : Nat → Int
  | 0 => 0
  | k + 1 => endTo up ps fs mp mf k + endAt up ps fs mp mf k

theorem thickL_eq (up : Bool) {ps : List Paper} {fs : List Flute} {mp mf : List Int} (F : Fine ps fs mp mf) : thickL up ps fs mp mf = endTo up ps fs mp mf mp.length := by
  have h1 := F.f1
  have h2 := F.f2
  have hm := F.mpl
  rcases (show mf.length = 1 ∨ mf.length = 2 by omega) with h | h
  · rw [h] at hm
    unfold thickL
    rw [hm, h]
    simp [thickP, thickF, endTo, endAt, kindL]
    omega
  · rw [h] at hm
    unfold thickL
    rw [hm, h]
    simp [thickP, thickF, endTo, endAt, kindL]
    omega

theorem calAt_ends {ps : List Paper} {fs : List Flute} {mp mf truth : List Int} (F : Fine ps fs mp mf) (hT : Bytes truth) {k : Nat} (hk : k < mp.length) :
    endAt false ps fs mp mf k ≤ calAt ps fs mp mf truth k ∧ calAt ps fs mp mf truth k ≤ endAt true ps fs mp mf k := by
  obtain ⟨y0, y1⟩ := byteL_bd hT k
  unfold calAt endAt
  split
  · obtain ⟨n, p, hn, hp, _⟩ := F.pap k hk
    obtain ⟨_, _, _, h3, h4, h5, _⟩ := goodP_iff (F.good n p hp)
    have e : paperN ps (mp.getD k 0) = p := by simp [hn, paperN_eq hp]
    rw [e]
    exact inL_bd h4 y0 y1
  · have hm := F.mpl
    obtain ⟨_, _, _, _, g1, g2, g3⟩ := flute_good F (show k / 2 < mf.length by omega)
    exact inL_bd g2 y0 y1

theorem calTo_ends {ps : List Paper} {fs : List Flute} {mp mf truth : List Int} (F : Fine ps fs mp mf) (hT : Bytes truth) : ∀ k, k ≤ mp.length →
    endTo false ps fs mp mf k ≤ calTo ps fs mp mf truth k ∧ calTo ps fs mp mf truth k ≤ endTo true ps fs mp mf k
  | 0, _ => by simp [calTo, endTo]
  | k + 1, hk => by
    obtain ⟨a, b⟩ := calTo_ends F hT k (by omega)
    obtain ⟨c, d⟩ := calAt_ends F hT (show k < mp.length by omega)
    unfold calTo endTo
    omega

theorem cal_bd {ps : List Paper} {fs : List Flute} {mp mf truth : List Int} (F : Fine ps fs mp mf) (hT : Bytes truth) :
    thickL false ps fs mp mf ≤ calL ps fs mp mf truth ∧ calL ps fs mp mf truth ≤ thickL true ps fs mp mf := by
  rw [thickL_eq false F, thickL_eq true F]
  exact calTo_ends F hT _ (Nat.le_refl _)

theorem calTo_0 (ps : List Paper) (fs : List Flute) (mp mf : List Int) : ∀ k, calTo ps fs mp mf [0] k = endTo false ps fs mp mf k
  | 0 => rfl
  | k + 1 => by
    have hb : byteL [0] k = 0 := by simp [byteL, Nat.mod_one]
    unfold calTo endTo
    rw [calTo_0 ps fs mp mf k]
    unfold calAt endAt
    rw [hb]
    simp only [inL_0]
    rfl
theorem calTo_255 (ps : List Paper) (fs : List Flute) (mp mf : List Int) : ∀ k, calTo ps fs mp mf [255] k = endTo true ps fs mp mf k
  | 0 => rfl
  | k + 1 => by
    have hb : byteL [255] k = 255 := by simp [byteL, Nat.mod_one]
    unfold calTo endTo
    rw [calTo_255 ps fs mp mf k]
    unfold calAt endAt
    rw [hb]
    simp only [inL_255]
    rfl
theorem cal_0 {ps : List Paper} {fs : List Flute} {mp mf : List Int} (F : Fine ps fs mp mf) : calL ps fs mp mf [0] = thickL false ps fs mp mf := by
  rw [thickL_eq false F]
  exact calTo_0 ps fs mp mf _
theorem cal_255 {ps : List Paper} {fs : List Flute} {mp mf : List Int} (F : Fine ps fs mp mf) : calL ps fs mp mf [255] = thickL true ps fs mp mf := by
  rw [thickL_eq true F]
  exact calTo_255 ps fs mp mf _

theorem fflute_high {v0 v1 v2 : Int} (h1 : Byt v1) (h2 : Byt v2) : 1000 ≤ (fflute v0 v1 v2).hlo ∧ (fflute v0 v1 v2).hlo ≤ (fflute v0 v1 v2).hhi ∧ (fflute v0 v1 v2).hhi ≤ 3239 := by
  obtain ⟨a1, b1⟩ := h1
  obtain ⟨a2, b2⟩ := h2
  simp only [fflute]
  omega
theorem fpaper_thick {v0 v1 v2 v3 k : Int} (h1 : Byt v1) (h2 : Byt v2) : 100 ≤ (fpaper v0 v1 v2 v3 k).tlo ∧ (fpaper v0 v1 v2 v3 k).tlo ≤ (fpaper v0 v1 v2 v3 k).thi ∧ (fpaper v0 v1 v2 v3 k).thi ≤ 414 := by
  obtain ⟨a1, b1⟩ := h1
  obtain ⟨a2, b2⟩ := h2
  simp only [fpaper]
  omega

theorem single_ok {x0 x1 x2 x3 x4 x5 x6 x7 x8 x9 x10 x11 x12 x13 x14 x15 x16 x17 : Int} (H : ∀ n ∈ [x0, x1, x2, x3, x4, x5, x6, x7, x8, x9, x10, x11, x12, x13, x14, x15, x16, x17], Byt n) :
    okSpan 1 10000 (thickL false (storeP x0 x1 x2 x3 x4 x5 x6 x7 x8 x9 x10 x11) (storeF x12 x13 x14 x15 x16 x17) [0, 1, 2] [0]) (thickL true (storeP x0 x1 x2 x3 x4 x5 x6 x7 x8 x9 x10 x11) (storeF x12 x13 x14 x15 x16 x17) [0, 1, 2] [0]) = true := by
  obtain ⟨a0, a1, a2⟩ := fpaper_thick (v0 := x0) (v3 := x3) (k := 0) (H x1 (by simp)) (H x2 (by simp))
  obtain ⟨b0, b1, b2⟩ := fpaper_thick (v0 := x8) (v3 := x11) (k := 2) (H x9 (by simp)) (H x10 (by simp))
  obtain ⟨c0, c1, c2⟩ := fflute_high (v0 := x12) (H x13 (by simp)) (H x14 (by simp))
  have e : ∀ up, thickL up (storeP x0 x1 x2 x3 x4 x5 x6 x7 x8 x9 x10 x11) (storeF x12 x13 x14 x15 x16 x17) [0, 1, 2] [0] =
      0 + endOf up (fpaper x0 x1 x2 x3 0).tlo (fpaper x0 x1 x2 x3 0).thi + endOf up (fpaper x8 x9 x10 x11 2).tlo (fpaper x8 x9 x10 x11 2).thi + endOf up (fflute x12 x13 x14).hlo (fflute x12 x13 x14).hhi := fun up => rfl
  rw [e, e]
  simp only [okSpan, inB, in1, endOf, List.all_cons, List.all_nil, Bool.and_true, Bool.and_eq_true, decide_eq_true_eq]
  simp
  omega

end Go.Proofs.Ytbohjmogpiaejaa
