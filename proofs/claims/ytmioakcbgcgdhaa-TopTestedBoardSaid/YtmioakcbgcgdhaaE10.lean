/- The contract of armCrush: the document's examples of chapter 3. -/
import Derived.Test.YtmioakcbgcgdhaaI7
import Derived.Test.YtmioakcbgcgdhaaK3
import Derived.Test.YtmioakcbgcgdhaaE0
namespace Go.Proofs.Ytmioakcbgcgdhaa
set_option linter.unusedVariables false
set_option linter.unusedSimpArgs false
open Go.RowKit

theorem strong_lo : strongB 1600 587 5000 4000 = 74226 := by
  unfold strongB
  rw [show (4000 : Int) * 1600 = 6400000 from rfl, rootL_is (n := 6400000) (r := 2529) (by omega) (by omega) (by omega) (by omega)]
  rfl

theorem strong_hi : strongB 1600 587 6000 4200 = 91290 := by
  unfold strongB
  rw [show (4200 : Int) * 1600 = 6720000 from rfl, rootL_is (n := 6720000) (r := 2592) (by omega) (by omega) (by omega) (by omega)]
  rfl

theorem crush1 (w : World) : Calls Try.prog 16 #[.agg #[.int .i64 5000, .int .i64 6000, .int .i64 4000, .int .i64 4200, .int .i64 1600, .int .i64 587]] w fun e w' => e = .returned (.tuple #[.agg #[.int .i64 74226, .int .i64 91290], .int .i64 0]) ∧ Gr w w' := by
  have h := crushStrength_ok 5000 6000 4000 4200 1600 587 (by decide +kernel) w
  rw [strong_lo, strong_hi] at h
  exact h

def ld0 : Ld := ⟨300, 320, 100, 110⟩

def ts0 : List Stp := [⟨0, 1000⟩, ⟨10, 800⟩, ⟨30, 600⟩]

theorem stored0 : storedL 1 [ld0] ts0 10 = 0 := by decide +kernel

theorem until0 : (untilL ts0 10).length = 2 := by decide +kernel

theorem last0 : lastL ts0 10 = 800 := by decide +kernel

theorem high1 (c : Option Addr) (w : World) (ht : TRow w c ts0) : Calls Try.prog 42 #[.agg #[.int .i64 300, .int .i64 320, .int .i64 100, .int .i64 110], .slice c 3 3, .int .i64 10] w fun e w' => e = .returned (.tuple #[.int .i64 3, .int .i64 0]) ∧ Gr w w' := by
  have h := high_ok ld0 (by simp [LdOk, LdB, ld0]) ts0 10 stored0 (by simp [ts0]) (by simp [ts0]) (by rw [until0]; omega) (by rw [until0]; simp [ts0]) (by rw [last0]; omega) (by rw [last0]; omega) c 3 (by simp [ts0]) w ht
  rw [last0] at h
  refine h.mono ?_
  rintro e w' ⟨r, rfl, r0, r1, hlo, hhi, g⟩
  obtain rfl : r = 3 := by
    rcases Int.lt_trichotomy r 3 with h | h | h
    · have := hhi 2 (by omega) (by omega)
      simp [ld0] at this
    · exact h
    · have := hlo 3 (by omega) h
      simp [ld0] at this
  exact ⟨rfl, g⟩

set_option maxRecDepth 100000 in
set_option maxHeartbeats 4000000 in
theorem armCrush_any (w : World) : Calls Try.prog 18 #[] w fun e w' => e = .returned (.bool true) ∧ Gr w w' := by
  go_enter Try.func18, Try.ntmps18
  go_wp2_with fail
  refine (armSpan_any _ _ _).mono ?_
  rintro e w1 ⟨rfl, h1⟩
  go_wp2_with fail
  refine (armSpan_any _ _ _).mono ?_
  rintro e w2 ⟨rfl, h2⟩
  go_wp2_with fail
  refine (crush1 _).mono ?_
  rintro e w3 ⟨rfl, h3⟩
  go_upto_region 2 with fail
  refine wp_abs (fun W => Gr w W ∧ Box W w3.heap.size [.int .i64 74226, .int .i64 91290]) ⟨((h1.tr h2).tr h3).tr (Gr.al _ _), Box.new _ [.int .i64 74226, .int .i64 91290] 38 w3.heap.size rfl⟩ ?_
  rintro W ⟨gW, b1⟩
  clear h1 h2 h3
  go_wp2_with fail
  refine (armSpan_any _ _ _).mono ?_
  rintro e w4 ⟨rfl, h4⟩
  go_wp2_with fail
  refine (armSpan_any _ _ _).mono ?_
  rintro e w5 ⟨rfl, h5⟩
  go_wp2_with fail
  have bx := Box.new w5 [.int .i64 0, .int .i64 1000, .int .i64 10, .int .i64 800, .int .i64 30, .int .i64 600] 89 w5.heap.size rfl
  have tr : TRow (w5.alloc (.cells #[.int .i64 0, .int .i64 1000, .int .i64 10, .int .i64 800, .int .i64 30, .int .i64 600] 89)) (some ⟨w5.heap.size, 0, none⟩) ts0 := by
    refine ⟨by simp [ts0], fun j y hy => ⟨w5.heap.size, 0, rfl, bx.1, fun i v hv => ?_⟩⟩
    have hj : j = 0 ∨ j = 1 ∨ j = 2 := by
      have := (List.getElem?_eq_some_iff.1 hy).1
      simp [ts0] at this
      omega
    have hi : i = 0 ∨ i = 1 := by
      have := (List.getElem?_eq_some_iff.1 hv).1
      simp [encT] at this
      omega
    rcases hj with rfl | rfl | rfl <;> (simp [ts0] at hy; subst hy; rcases hi with rfl | rfl <;> (simp [encT] at hv; subst hv))
    · exact bx.2 0 _ rfl
    · exact bx.2 1 _ rfl
    · exact bx.2 2 _ rfl
    · exact bx.2 3 _ rfl
    · exact bx.2 4 _ rfl
    · exact bx.2 5 _ rfl
  clear bx
  refine (high1 _ _ tr).mono ?_
  rintro e w6 ⟨rfl, h6⟩
  clear tr
  go_upto_region 3 with fail
  have gZ := (h4.tr h5).tr ((Gr.al _ _).tr h6)
  refine wp_abs (fun U => Gr W U ∧ Box U w3.heap.size [.int .i64 74226, .int .i64 91290]) ⟨gZ, b1.keep gZ⟩ ?_
  clear gZ h4 h5 h6
  rintro U ⟨gU, b4⟩
  have gX := Gr.dr U
  obtain ⟨x0, x1⟩ := (b4.keep gX).c2
  go_region_held3 (fun w' => w'.cell? ⟨w3.heap.size, 0, none⟩ = some (.int .i64 74226) ∧ w'.cell? ⟨w3.heap.size, 1, none⟩ = some (.int .i64 91290)) (first | exact ⟨x0, x1⟩ | go_keep) (first
    | (go_at_call 15; (refine (armSpan_any _ _ _).mono ?_); rintro e w8 ⟨rfl, hy⟩; replace gX := gX.tr hy; (obtain ⟨x0, x1⟩ := (b4.keep gX).c2)))
  all_goals
    go_wp2
    go_ret
    exact ⟨rfl, gW.tr (gU.tr gX)⟩

end Go.Proofs.Ytmioakcbgcgdhaa
