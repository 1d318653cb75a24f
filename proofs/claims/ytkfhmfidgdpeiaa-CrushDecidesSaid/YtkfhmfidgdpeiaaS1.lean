/- Contracts of the small functions of package score. -/
import Derived.Test.YtkfhmfidgdpeiaaQa
import Derived.WalkLawsBesides
namespace Go.Proofs.Ytkfhmfidgdpeiaa
set_option linter.unusedVariables false
set_option linter.unusedSimpArgs false
open Go.RowKit

theorem Box.c10 {w : World} {b : Nat} {x0 x1 x2 x3 x4 x5 x6 x7 x8 x9 : Value} (h : Box w b [x0, x1, x2, x3, x4, x5, x6, x7, x8, x9]) : w.cell? ⟨b, 0, none⟩ = some x0 ∧ w.cell? ⟨b, 1, none⟩ = some x1 ∧ w.cell? ⟨b, 2, none⟩ = some x2 ∧ w.cell? ⟨b, 3, none⟩ = some x3 ∧ w.cell? ⟨b, 4, none⟩ = some x4 ∧ w.cell? ⟨b, 5, none⟩ = some x5 ∧ w.cell? ⟨b, 6, none⟩ = some x6 ∧ w.cell? ⟨b, 7, none⟩ = some x7 ∧ w.cell? ⟨b, 8, none⟩ = some x8 ∧ w.cell? ⟨b, 9, none⟩ = some x9 :=
  ⟨h.2 0 x0 rfl, h.2 1 x1 rfl, h.2 2 x2 rfl, h.2 3 x3 rfl, h.2 4 x4 rfl, h.2 5 x5 rfl, h.2 6 x6 rfl, h.2 7 x7 rfl, h.2 8 x8 rfl, h.2 9 x9 rfl⟩

theorem Box.c7 {w : World} {b : Nat} {x0 x1 x2 x3 x4 x5 x6 : Value} (h : Box w b [x0, x1, x2, x3, x4, x5, x6]) : w.cell? ⟨b, 0, none⟩ = some x0 ∧ w.cell? ⟨b, 1, none⟩ = some x1 ∧ w.cell? ⟨b, 2, none⟩ = some x2 ∧ w.cell? ⟨b, 3, none⟩ = some x3 ∧ w.cell? ⟨b, 4, none⟩ = some x4 ∧ w.cell? ⟨b, 5, none⟩ = some x5 ∧ w.cell? ⟨b, 6, none⟩ = some x6 :=
  ⟨h.2 0 x0 rfl, h.2 1 x1 rfl, h.2 2 x2 rfl, h.2 3 x3 rfl, h.2 4 x4 rfl, h.2 5 x5 rfl, h.2 6 x6 rfl⟩


theorem span_any (a b : Int) (w : World) :
    Calls Try.prog 31 #[.int .i64 a, .int .i64 b] w fun e w' => e = .returned (.agg #[.int .i64 a, .int .i64 b]) ∧ Gr w w' := by
  go_enter Try.func31, Try.ntmps31
  go_wp2
  refine bodyPost_ret (v := .agg #[.int .i64 a, .int .i64 b]) (by simp [results, Try.results31, go_sem]) rfl ⟨rfl, Gr.al _ _⟩

/-- What a measure can truly be. -/
def nearL (off m lo hi : Int) : Sp := ⟨max lo (m - off), min hi (m + off)⟩

/-- How many calipers a measure loses. -/
def lostL (k : Int) (opn : Bool) : Int := if k = 4 ∧ opn = false then 2 else 1

end Go.Proofs.Ytkfhmfidgdpeiaa
