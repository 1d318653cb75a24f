/- A board with a flute more: made, not thinner, not lighter; what follows for boxes of it. -/
import Derived.Test.YtbohjmogpiaejaaW1
import Derived.Test.YtbohjmogpiaejaaV5
import Derived.Test.YtbohjmogpiaejaaS8
namespace Go.Proofs.Ytbohjmogpiaejaa
set_option linter.unusedVariables false
set_option linter.unusedSimpArgs false
open Go.RowKit

theorem double_made {x0 x1 x2 x3 x4 x5 x6 x7 x8 x9 x10 x11 x12 x13 x14 x15 x16 x17 : Int} (H : ∀ n ∈ [x0, x1, x2, x3, x4, x5, x6, x7, x8, x9, x10, x11, x12, x13, x14, x15, x16, x17], Byt n) :
    madeL (storeP x0 x1 x2 x3 x4 x5 x6 x7 x8 x9 x10 x11) (storeF x12 x13 x14 x15 x16 x17) [0, 1, 2, 1, 0] [0, 1] = 0 := by
  have hP : (storeP x0 x1 x2 x3 x4 x5 x6 x7 x8 x9 x10 x11).all goodP = true := by
    simp only [storeP, List.all_cons, List.all_nil, Bool.and_true, Bool.and_eq_true]
    exact ⟨good_fpaper (H _ (by simp)) (H _ (by simp)) (H _ (by simp)) (H _ (by simp)), good_fpaper (H _ (by simp)) (H _ (by simp)) (H _ (by simp)) (H _ (by simp)), good_fpaper (H _ (by simp)) (H _ (by simp)) (H _ (by simp)) (H _ (by simp))⟩
  have hF : (storeF x12 x13 x14 x15 x16 x17).all goodF = true := by
    simp only [storeF, List.all_cons, List.all_nil, Bool.and_true, Bool.and_eq_true]
    exact ⟨good_fflute (H _ (by simp)) (H _ (by simp)) (H _ (by simp)), good_fflute (H _ (by simp)) (H _ (by simp)) (H _ (by simp))⟩
  have hc : checkL (storeP x0 x1 x2 x3 x4 x5 x6 x7 x8 x9 x10 x11) (storeF x12 x13 x14 x15 x16 x17) = 0 := by
    unfold checkL
    rw [hP, hF]
    rfl
  have hk : kindsOk (storeP x0 x1 x2 x3 x4 x5 x6 x7 x8 x9 x10 x11) [0, 1, 2, 1, 0] = true := by rfl
  unfold madeL
  rw [if_neg (by simp [hc]), if_neg (by rw [show formedL [0, 1, 2, 1, 0] [0, 1] = true from by decide]; decide), if_neg (by rw [show numberedL [0, 1, 2, 1, 0] [0, 1] _ _ = true from by rfl]; decide), if_neg (by rw [hk]; decide)]

section
variable {x0 x1 x2 x3 x4 x5 x6 x7 x8 x9 x10 x11 x12 x13 x14 x15 x16 x17 : Int}
theorem thick_single (up : Bool) : thickL up (storeP x0 x1 x2 x3 x4 x5 x6 x7 x8 x9 x10 x11) (storeF x12 x13 x14 x15 x16 x17) [0, 1, 2] [0] =
      0 + endOf up (fpaper x0 x1 x2 x3 0).tlo (fpaper x0 x1 x2 x3 0).thi + endOf up (fpaper x8 x9 x10 x11 2).tlo (fpaper x8 x9 x10 x11 2).thi + endOf up (fflute x12 x13 x14).hlo (fflute x12 x13 x14).hhi := rfl
theorem thick_double (up : Bool) : thickL up (storeP x0 x1 x2 x3 x4 x5 x6 x7 x8 x9 x10 x11) (storeF x12 x13 x14 x15 x16 x17) [0, 1, 2, 1, 0] [0, 1] =
      0 + endOf up (fpaper x0 x1 x2 x3 0).tlo (fpaper x0 x1 x2 x3 0).thi + endOf up (fpaper x8 x9 x10 x11 2).tlo (fpaper x8 x9 x10 x11 2).thi + endOf up (fpaper x0 x1 x2 x3 0).tlo (fpaper x0 x1 x2 x3 0).thi + endOf up (fflute x12 x13 x14).hlo (fflute x12 x13 x14).hhi + endOf up (fflute x15 x16 x17).hlo (fflute x15 x16 x17).hhi := rfl

theorem double_ok (H : ∀ n ∈ [x0, x1, x2, x3, x4, x5, x6, x7, x8, x9, x10, x11, x12, x13, x14, x15, x16, x17], Byt n) :
    okSpan 1 10000 (thickL false (storeP x0 x1 x2 x3 x4 x5 x6 x7 x8 x9 x10 x11) (storeF x12 x13 x14 x15 x16 x17) [0, 1, 2, 1, 0] [0, 1]) (thickL true (storeP x0 x1 x2 x3 x4 x5 x6 x7 x8 x9 x10 x11) (storeF x12 x13 x14 x15 x16 x17) [0, 1, 2, 1, 0] [0, 1]) = true := by
  obtain ⟨a0, a1, a2⟩ := fpaper_thick (v0 := x0) (v3 := x3) (k := 0) (H x1 (by simp)) (H x2 (by simp))
  obtain ⟨b0, b1, b2⟩ := fpaper_thick (v0 := x8) (v3 := x11) (k := 2) (H x9 (by simp)) (H x10 (by simp))
  obtain ⟨c0, c1, c2⟩ := fflute_high (v0 := x12) (H x13 (by simp)) (H x14 (by simp))
  obtain ⟨d0, d1, d2⟩ := fflute_high (v0 := x15) (H x16 (by simp)) (H x17 (by simp))
  rw [thick_double, thick_double]
  simp only [okSpan, inB, in1, endOf, List.all_cons, List.all_nil, Bool.and_true, Bool.and_eq_true, decide_eq_true_eq]
  simp
  omega
theorem thick_le (up : Bool) (H : ∀ n ∈ [x0, x1, x2, x3, x4, x5, x6, x7, x8, x9, x10, x11, x12, x13, x14, x15, x16, x17], Byt n) :
    thickL up (storeP x0 x1 x2 x3 x4 x5 x6 x7 x8 x9 x10 x11) (storeF x12 x13 x14 x15 x16 x17) [0, 1, 2] [0] ≤ thickL up (storeP x0 x1 x2 x3 x4 x5 x6 x7 x8 x9 x10 x11) (storeF x12 x13 x14 x15 x16 x17) [0, 1, 2, 1, 0] [0, 1] := by
  obtain ⟨a0, a1, a2⟩ := fpaper_thick (v0 := x0) (v3 := x3) (k := 0) (H x1 (by simp)) (H x2 (by simp))
  obtain ⟨d0, d1, d2⟩ := fflute_high (v0 := x15) (H x16 (by simp)) (H x17 (by simp))
  rw [thick_single, thick_double]
  cases up <;> simp [endOf] <;> omega
end

/-- Two fractions: what is more, over as much. -/
theorem frac_le {a b p q : Int} (hp : 0 < p) (hq : 0 < q) (h : a * q ≤ b) : a / (1000 * p) ≤ b / (1000 * (p * q)) := by
  have e : a / (1000 * p) = a * q / (1000 * (p * q)) := by
    rw [show (1000 * (p * q) : Int) = 1000 * p * q by rw [Int.mul_assoc]]
    exact (Int.mul_ediv_mul_of_pos_left a (1000 * p) hq).symm
  rw [e]
  exact Int.ediv_le_ediv (Int.mul_pos (by omega) (Int.mul_pos hp hq)) h

theorem moist_le (up : Bool) {a b c : Paper} {f g : Flute} (ha : 0 ≤ moistOf up a) (hb : 0 ≤ moistOf up b) (hf : 0 < f.pitch) (hg : 0 < g.pitch) (hfd : 0 ≤ f.draw) (hgd : 0 ≤ g.draw) :
    moistL up [a, b, c] [f, g] [0, 1, 2] [0] ≤ moistL up [a, b, c] [f, g] [0, 1, 2, 1, 0] [0, 1] := by
  have e1 : partsL [f, g] [0] = f.pitch := by simp [partsL, partsTo, fluteAt, fluteN]
  have e2 : partsL [f, g] [0, 1] = f.pitch * g.pitch := by simp [partsL, partsTo, fluteAt, fluteN]
  have q1 : f.pitch / f.pitch = 1 := Int.ediv_self (by omega)
  have q2 : f.pitch * g.pitch / f.pitch = g.pitch := Int.mul_ediv_cancel_left _ (by omega)
  have q3 : f.pitch * g.pitch / g.pitch = f.pitch := Int.mul_ediv_cancel _ (by omega)
  unfold moistL
  rw [e1, e2]
  refine frac_le hf hg ?_
  have t1 : totalL [a, b, c] [f, g] [0, 1, 2] [0] (moistOf up) = moistOf up a * f.pitch + moistOf up b * f.draw + moistOf up c * f.pitch := by
    simp [totalL, totalTo, usedL, usedTo, takeL, kindL, paperN, e1, fluteAt, fluteN, q1]
  have t2 : totalL [a, b, c] [f, g] [0, 1, 2, 1, 0] [0, 1] (moistOf up) = moistOf up a * (f.pitch * g.pitch + f.pitch * g.pitch) + moistOf up b * (g.pitch * f.draw + f.pitch * g.draw) + moistOf up c * (f.pitch * g.pitch) := by
    simp [totalL, totalTo, usedL, usedTo, takeL, kindL, paperN, e2, fluteAt, fluteN, q2, q3]
  rw [t1, t2]
  have m1 : 0 ≤ moistOf up a * (f.pitch * g.pitch) := Int.mul_nonneg ha (Int.mul_nonneg (by omega) (by omega))
  have m2 : 0 ≤ moistOf up b * (f.pitch * g.draw) := Int.mul_nonneg hb (Int.mul_nonneg (by omega) hgd)
  simp only [Int.mul_add, Int.add_mul]
  have s1 : moistOf up a * f.pitch * g.pitch = moistOf up a * (f.pitch * g.pitch) := Int.mul_assoc _ _ _
  have s2 : moistOf up b * f.draw * g.pitch = moistOf up b * (g.pitch * f.draw) := by rw [Int.mul_assoc, Int.mul_comm f.draw]
  have s3 : moistOf up c * f.pitch * g.pitch = moistOf up c * (f.pitch * g.pitch) := Int.mul_assoc _ _ _
  omega

theorem inner_le {off hei : Int} {pan top bot : List Int} {opn : Bool} {cl ch cl' ch' : Int} (h0 : cl ≤ cl') (h1 : ch ≤ ch') (i : Nat) :
    (innerAt off hei pan top bot opn cl' ch' i).lo ≤ (innerAt off hei pan top bot opn cl ch i).lo ∧ (innerAt off hei pan top bot opn cl' ch' i).hi ≤ (innerAt off hei pan top bot opn cl ch i).hi := by
  have hL : 0 ≤ lostL i opn := by unfold lostL; split <;> omega
  have a := Int.mul_le_mul_of_nonneg_left h0 hL
  have b := Int.mul_le_mul_of_nonneg_left h1 hL
  simp only [innerAt, insideS]
  omega

/-! ### Three measures, sorted -/
theorem sort3 (a b c : Int) : sortL [a, b, c] = [min a (min b c), max (min a b) (min c (max a b)), max a (max b c)] := by
  by_cases h1 : a ≤ b <;> by_cases h2 : b ≤ c <;> by_cases h3 : a ≤ c <;> simp [sortL, List.mergeSort, List.MergeSort.Internal.splitInTwo, h1, h2, h3] <;> omega

theorem fits3 (t0 t1 t2 a b c : Int) : fitsL [t0, t1, t2] [a, b, c] = true ↔
    1000 * min t0 (min t1 t2) ≤ min a (min b c) ∧ 1000 * max (min t0 t1) (min t2 (max t0 t1)) ≤ max (min a b) (min c (max a b)) ∧ 1000 * max t0 (max t1 t2) ≤ max a (max b c) := by
  unfold fitsL
  rw [sort3, sort3]
  simp [fitsP]

theorem min_mono {a b a' b' : Int} (ha : a' ≤ a) (hb : b' ≤ b) : min a' b' ≤ min a b := by omega
theorem max_mono {a b a' b' : Int} (ha : a' ≤ a) (hb : b' ≤ b) : max a' b' ≤ max a b := by omega

theorem fits_mono {t0 t1 t2 a b c a' b' c' : Int} (ha : a' ≤ a) (hb : b' ≤ b) (hc : c' ≤ c) (h : fitsL [t0, t1, t2] [a', b', c'] = true) : fitsL [t0, t1, t2] [a, b, c] = true := by
  rw [fits3] at h ⊢
  obtain ⟨h1, h2, h3⟩ := h
  exact ⟨Int.le_trans h1 (min_mono ha (min_mono hb hc)), Int.le_trans h2 (max_mono (min_mono ha hb) (min_mono hc (max_mono ha hb))), Int.le_trans h3 (max_mono ha (max_mono hb hc))⟩

theorem fitsBox_mono {t0 t1 t2 off hei : Int} {pan top bot : List Int} {opn : Bool} {c c' : Int} (hc : c ≤ c') (h : fitsL [t0, t1, t2] (fitsBox off hei pan top bot opn c') = true) : fitsL [t0, t1, t2] (fitsBox off hei pan top bot opn c) = true := by
  have m := fun k => (inner_le (off := off) (hei := hei) (pan := pan) (top := top) (bot := bot) (opn := opn) hc hc k).1
  have m0 := m 0
  have m1 := m 1
  have m2 := m 2
  have m3 := m 3
  have m4 := m 4
  unfold fitsBox at h ⊢
  exact fits_mono (min_mono m0 m2) (min_mono m1 m3) m4 h

theorem thing_ok {y0 y1 y2 : Int} (h0 : Byt y0) (h1 : Byt y1) (h2 : Byt y2) : inB 0 3000 [y0 + 20, y1 + 20, y2 + 20] = true := by
  obtain ⟨a0, b0⟩ := h0
  obtain ⟨a1, b1⟩ := h1
  obtain ⟨a2, b2⟩ := h2
  simp only [inB, in1, List.all_cons, List.all_nil, Bool.and_true, Bool.and_eq_true, decide_eq_true_eq]
  omega
theorem okSpan_le {lo hi a b : Int} (h : okSpan lo hi a b = true) : a ≤ b := by
  simp only [okSpan, Bool.and_eq_true, decide_eq_true_eq] at h
  exact h.2

end Go.Proofs.Ytbohjmogpiaejaa
