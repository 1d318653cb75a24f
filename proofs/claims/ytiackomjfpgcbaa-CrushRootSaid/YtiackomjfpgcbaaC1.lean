/- CrushRoot's numbers. -/
import Derived.Test.YtiackomjfpgcbaaI33
namespace Go.Proofs.Ytiackomjfpgcbaa
set_option linter.unusedVariables false
set_option linter.unusedSimpArgs false
open Go.RowKit

theorem rootL_mono {n m : Int} (h : 0 ≤ n) (hm : n ≤ m) : rootL n ≤ rootL m := by
  obtain ⟨a0, a1, a2⟩ := rootL_spec h
  obtain ⟨b0, b1, b2⟩ := rootL_spec (show 0 ≤ m by omega)
  rcases Int.lt_or_le (rootL m) (rootL n) with h1 | h1
  · exfalso
    have h2 : (rootL m + 1) * (rootL m + 1) ≤ rootL n * rootL n := Int.mul_le_mul (by omega) (by omega) (by omega) (by omega)
    omega
  · exact h1

theorem strongB_mono {ar ar' ru e e' c c' : Int} (u0 : 0 ≤ ru) (e0 : 0 ≤ e) (he : e ≤ e') (c0 : 0 ≤ c) (hc : c ≤ c') (a0 : 0 ≤ ar) (ha : ar ≤ ar') : strongB ar ru e c ≤ strongB ar' ru e' c' := by
  have p0 : 0 ≤ c * ar := Int.mul_nonneg c0 a0
  have p1 : c * ar ≤ c' * ar' := Int.mul_le_mul hc ha a0 (by omega)
  have r := rootL_mono p0 p1
  have r0 := (rootL_spec p0).1
  have q1 : e * rootL (c * ar) ≤ e' * rootL (c' * ar') := Int.mul_le_mul he r r0 (by omega)
  have q2 := Int.mul_le_mul_of_nonneg_right q1 u0
  unfold strongB
  omega

theorem strongB_root {ar c : Int} : strongB ar 100 1000 c = rootL (c * ar) := by
  unfold strongB
  omega

theorem inL_mid {lo d p : Int} (h : 0 ≤ d) (p0 : 0 ≤ p) (p1 : p ≤ 255) : 0 ≤ p * d ∧ p * d ≤ 255 * d ∧ lo ≤ lo + p * d / 255 ∧ lo + p * d / 255 ≤ lo + d := by
  have h0 : 0 ≤ p * d := Int.mul_nonneg p0 h
  have h1 : p * d ≤ 255 * d := Int.mul_le_mul_of_nonneg_right p1 h
  omega

end Go.Proofs.Ytiackomjfpgcbaa
