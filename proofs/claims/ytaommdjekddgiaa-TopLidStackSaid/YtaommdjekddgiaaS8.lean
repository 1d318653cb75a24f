/- Contract of Inner, of a valid blank. -/
import Derived.Test.YtaommdjekddgiaaS7
import Derived.Test.YtaommdjekddgiaaQm
namespace Go.Proofs.Ytaommdjekddgiaa
set_option linter.unusedVariables false
set_option linter.unusedSimpArgs false
open Go.RowKit

theorem infoSpan : (Try.prog.info? 38).map (fun i => (i.zero, i.size, i.bytes)) = some (some (.agg #[.int .i64 0, .int .i64 0]), 2, 16) := by kernel_rfl

def innerL (off hei : Int) (pan top bot : List Int) (opn : Bool) (cl ch : Int) (n : Nat) : List Sp := (List.range n).map (innerAt off hei pan top bot opn cl ch)

/-- A list of spans is handed back, and no error. -/
def SpansPost (l : List Sp) (w : World) (e : Ending) (w' : World) : Prop := ∃ a cap, e = .returned (.tuple #[.slice a l.length cap, .int .i64 0]) ∧ Gr w w' ∧ SRow w' a l

theorem zeros3 : ∀ x ∈ ([0, 0, 0] : List Int), x = 0 := by simp

theorem zeros2 : ∀ x ∈ ([0, 0] : List Int), x = 0 := by simp

theorem first_three (ad : Option Addr) (cap : Nat) (w : World) (hr : IRow w ad [0, 0, 0]) :
    Calls Try.prog 44 #[.slice ad 3 cap] w fun e w' => e = .returned (.int .i64 0) ∧ Gr w w' :=
  (first_ok [0, 0, 0] zeros3 ad cap w hr).mono fun _ _ ⟨he, hw⟩ => ⟨he, hw ▸ Below.refl _ _⟩

theorem first_two (ad : Option Addr) (cap : Nat) (w : World) (hr : IRow w ad [0, 0]) :
    Calls Try.prog 44 #[.slice ad 2 cap] w fun e w' => e = .returned (.int .i64 0) ∧ Gr w w' :=
  (first_ok [0, 0] zeros2 ad cap w hr).mono fun _ _ ⟨he, hw⟩ => ⟨he, hw ▸ Below.refl _ _⟩

theorem zeros_row (w : World) (t : TypeId) : IRow (w.alloc (.cells #[.int .i64 0, .int .i64 0, .int .i64 0] t)) (some ⟨w.heap.size, 0, none⟩) [0, 0, 0] := IRow.new w t [0, 0, 0] (by simp)

theorem zeros_row2 (w : World) (t : TypeId) : IRow (w.alloc (.cells #[.int .i64 0, .int .i64 0] t)) (some ⟨w.heap.size, 0, none⟩) [0, 0] := IRow.new w t [0, 0] (by simp)

end Go.Proofs.Ytaommdjekddgiaa
