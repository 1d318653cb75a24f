/- The contract of armCrush: the document's examples of chapter 3. -/
import Derived.Test.YtkfhmfidgdpeiaaI7
import Derived.Test.YtkfhmfidgdpeiaaK3
import Derived.Test.YtkfhmfidgdpeiaaE0
namespace Go.Proofs.Ytkfhmfidgdpeiaa
set_option linter.unusedVariables false
set_option linter.unusedSimpArgs false
open Go.RowKit

theorem strong_lo : strongB 1600 587 5000 4000 = 74226 := by
  unfold strongB
  rw [show (4000 : Int) * 1600 = 6400000 from rfl, rootL_is (n := 6400000) (r := 2529) (by omega) (by omega) (by omega) (by omega)]
  rfl

theorem strong_hi : strongB 1600 587 6000 4200 = 91290 := by
  unfold strongB
  rw [show (4200 : Int) * 1600 = 6720000 from rfl, rootL_is (n := 6720000) (r := 2592) (by omega) (by omega) (by omega) (by omega)]
  rfl

theorem crush1 (w : World) : Calls Try.prog 29 #[.agg #[.int .i64 5000, .int .i64 6000, .int .i64 4000, .int .i64 4200, .int .i64 1600, .int .i64 587]] w fun e w' => e = .returned (.tuple #[.agg #[.int .i64 74226, .int .i64 91290], .int .i64 0]) ∧ Gr w w' := by
  have h := crushStrength_ok 5000 6000 4000 4200 1600 587 (by decide +kernel) w
  rw [strong_lo, strong_hi] at h
  exact h

def ld0 : Ld := ⟨300, 320, 100, 110⟩

def ts0 : List Stp := [⟨0, 1000⟩, ⟨10, 800⟩, ⟨30, 600⟩]

theorem stored0 : storedL 1 [ld0] ts0 10 = 0 := by decide +kernel

theorem until0 : (untilL ts0 10).length = 2 := by decide +kernel

theorem last0 : lastL ts0 10 = 800 := by decide +kernel

theorem high1 (c : Option Addr) (w : World) (ht : TRow w c ts0) : Calls Try.prog 43 #[.agg #[.int .i64 300, .int .i64 320, .int .i64 100, .int .i64 110], .slice c 3 3, .int .i64 10] w fun e w' => e = .returned (.tuple #[.int .i64 3, .int .i64 0]) ∧ Gr w w' := by
  have h := high_ok ld0 (by simp [LdOk, LdB, ld0]) ts0 10 stored0 (by simp [ts0]) (by simp [ts0]) (by rw [until0]; omega) (by rw [until0]; simp [ts0]) (by rw [last0]; omega) (by rw [last0]; omega) c 3 (by simp [ts0]) w ht
  rw [last0] at h
  refine h.mono ?_
  rintro e w' ⟨r, rfl, r0, r1, hlo, hhi, g⟩
  obtain rfl : r = 3 := by
    rcases Int.lt_trichotomy r 3 with h | h | h
    · have := hhi 2 (by omega) (by omega)
      simp [ld0] at this
    · exact h
    · have := hlo 3 (by omega) h
      simp [ld0] at this
  exact ⟨rfl, g⟩

end Go.Proofs.Ytkfhmfidgdpeiaa
