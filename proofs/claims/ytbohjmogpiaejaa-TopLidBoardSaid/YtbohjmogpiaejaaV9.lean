/- From bytes: the store of a Fold, its single board and its box are good. -/
import Derived.Test.YtbohjmogpiaejaaP5
import Derived.Test.YtbohjmogpiaejaaP4
import Derived.Test.YtbohjmogpiaejaaS6
namespace Go.Proofs.Ytbohjmogpiaejaa
set_option linter.unusedVariables false
set_option linter.unusedSimpArgs false
open Go.RowKit

theorem good_fpaper {v0 v1 v2 v3 k : Int} (h0 : Byt v0) (h1 : Byt v1) (h2 : Byt v2) (h3 : Byt v3) : goodP (fpaper v0 v1 v2 v3 k) = true := by
  obtain ⟨a0, b0⟩ := h0
  obtain ⟨a1, b1⟩ := h1
  obtain ⟨a2, b2⟩ := h2
  obtain ⟨a3, b3⟩ := h3
  simp only [goodP, fpaper, inB, in1, okSpan, List.all_cons, List.all_nil, Bool.and_true, Bool.and_eq_true, Bool.or_eq_true, decide_eq_true_eq, beq_iff_eq]
  refine ⟨⟨⟨⟨⟨?_, ?_⟩, ?_⟩, ?_⟩, ?_⟩, ?_⟩ <;> first | omega | exact ⟨by omega, decide_eq_true (by omega)⟩

theorem good_fflute {v0 v1 v2 : Int} (h0 : Byt v0) (h1 : Byt v1) (h2 : Byt v2) : goodF (fflute v0 v1 v2) = true := by
  obtain ⟨a0, b0⟩ := h0
  obtain ⟨a1, b1⟩ := h1
  obtain ⟨a2, b2⟩ := h2
  have p0 : 0 ≤ (2000 + 20 * v0) * v2 := Int.mul_nonneg (by omega) a2
  have p1 : (2000 + 20 * v0) * v2 ≤ (2000 + 20 * v0) * 255 := Int.mul_le_mul_of_nonneg_left b2 (by omega)
  simp only [goodF, fflute, inB, in1, okSpan, List.all_cons, List.all_nil, Bool.and_true, Bool.and_eq_true, decide_eq_true_eq]
  generalize (2000 + 20 * v0) * v2 = p at *
  have q0 : 0 ≤ p / 400 := by omega
  have q1 : p / 400 ≤ 2000 + 20 * v0 := by omega
  refine ⟨⟨?_, ?_⟩, ?_⟩ <;> first | omega | exact ⟨by omega, decide_eq_true (by omega)⟩

theorem store_made {x0 x1 x2 x3 x4 x5 x6 x7 x8 x9 x10 x11 x12 x13 x14 x15 x16 x17 : Int} (H : ∀ n ∈ [x0, x1, x2, x3, x4, x5, x6, x7, x8, x9, x10, x11, x12, x13, x14, x15, x16, x17], Byt n) :
    madeL (storeP x0 x1 x2 x3 x4 x5 x6 x7 x8 x9 x10 x11) (storeF x12 x13 x14 x15 x16 x17) [0, 1, 2] [0] = 0 := by
  have hP : (storeP x0 x1 x2 x3 x4 x5 x6 x7 x8 x9 x10 x11).all goodP = true := by
    simp only [storeP, List.all_cons, List.all_nil, Bool.and_true, Bool.and_eq_true]
    exact ⟨good_fpaper (H _ (by simp)) (H _ (by simp)) (H _ (by simp)) (H _ (by simp)), good_fpaper (H _ (by simp)) (H _ (by simp)) (H _ (by simp)) (H _ (by simp)), good_fpaper (H _ (by simp)) (H _ (by simp)) (H _ (by simp)) (H _ (by simp))⟩
  have hF : (storeF x12 x13 x14 x15 x16 x17).all goodF = true := by
    simp only [storeF, List.all_cons, List.all_nil, Bool.and_true, Bool.and_eq_true]
    exact ⟨good_fflute (H _ (by simp)) (H _ (by simp)) (H _ (by simp)), good_fflute (H _ (by simp)) (H _ (by simp)) (H _ (by simp))⟩
  have hc : checkL (storeP x0 x1 x2 x3 x4 x5 x6 x7 x8 x9 x10 x11) (storeF x12 x13 x14 x15 x16 x17) = 0 := by
    unfold checkL
    rw [hP, hF]
    rfl
  have hk : kindsOk (storeP x0 x1 x2 x3 x4 x5 x6 x7 x8 x9 x10 x11) [0, 1, 2] = true := by rfl
  unfold madeL
  rw [if_neg (by simp [hc]), if_neg (by rw [show formedL [0, 1, 2] [0] = true from by decide]; decide), if_neg (by rw [show numberedL [0, 1, 2] [0] _ _ = true from by rfl]; decide), if_neg (by rw [hk]; decide)]

theorem box_good {v0 v1 v2 v3 v4 v5 v6 : Int} (h0 : Byt v0) (h1 : Byt v1) (h2 : Byt v2) (h3 : Byt v3) (h4 : Byt v4) (h5 : Byt v5) (h6 : Byt v6) :
    GoodB (v2 % 50) (40 + v3) (v6 % 21) (bxPan v0 v1 0) (bxTop v1 v4) (bxBot v1 v4 v5) false := by
  obtain ⟨a0, b0⟩ := h0
  obtain ⟨a1, b1⟩ := h1
  obtain ⟨a2, b2⟩ := h2
  obtain ⟨a3, b3⟩ := h3
  obtain ⟨a4, b4⟩ := h4
  obtain ⟨a5, b5⟩ := h5
  obtain ⟨a6, b6⟩ := h6
  constructor
  · rfl
  · rfl
  · rfl
  all_goals first
    | (simp only [inB, in1, bxPan, bxTop, bxBot, bxLong, bxWide, bxFlap, List.all_cons, List.all_nil, Bool.and_true, Bool.and_eq_true, decide_eq_true_eq]; omega)
    | simp

end Go.Proofs.Ytbohjmogpiaejaa
