/- Contract of pubScore. -/
import Derived.Test.YtaommdjekddgiaaV5
import Derived.Test.YtaommdjekddgiaaV6
import Derived.Test.YtaommdjekddgiaaS9
namespace Go.Proofs.Ytaommdjekddgiaa
set_option linter.unusedVariables false
set_option linter.unusedSimpArgs false
open Go.RowKit

def pan0 : List Int := [304, 204, 304, 204]

def top0 : List Int := [101, 101]

def thing0 : List Int := [200, 300, 201]

theorem good0 : GoodB 35 208 6 pan0 top0 top0 false := by constructor <;> decide

theorem sort_thing0 : sortL thing0 = [200, 201, 300] := by simp [sortL, thing0, List.mergeSort, List.MergeSort.Internal.splitInTwo, List.merge]

theorem box_hi : fitsBox 0 208 pan0 top0 top0 false 4000 = [300000, 200000, 200000] := by decide +kernel

theorem box_lo : fitsBox 0 208 pan0 top0 top0 false 3000 = [301000, 201000, 202000] := by decide +kernel

theorem sort_hi : sortL [300000, 200000, 200000] = [200000, 200000, 300000] := by simp [sortL, List.mergeSort, List.MergeSort.Internal.splitInTwo, List.merge]

theorem sort_lo : sortL [301000, 201000, 202000] = [201000, 202000, 301000] := by simp [sortL, List.mergeSort, List.MergeSort.Internal.splitInTwo, List.merge]

theorem fits_hi : fitsL thing0 (fitsBox 0 208 pan0 top0 top0 false 4000) = false := by rw [box_hi, fitsL, sort_thing0, sort_hi]; decide

theorem fits_lo : fitsL thing0 (fitsBox 0 208 pan0 top0 top0 false 3000) = true := by rw [box_lo, fitsL, sort_thing0, sort_lo]; decide

theorem along0 : alongL 208 top0 top0 = 410 := by decide +kernel

theorem holds0 (pa ta ba td : Option Addr) (w : World) (hp : IRow w pa pan0) (ht : IRow w ta top0) (hb : IRow w ba top0) (htd : IRow w td thing0) :
    Calls Try.prog 29 #[.agg #[.int .i64 35, .slice pa 4 4, .int .i64 208, .slice ta 2 2, .slice ba 2 2, .int .i64 6, .bool false], .agg #[.int .i64 3000, .int .i64 4000], .slice td 3 3] w fun e w' => e = .returned (.tuple #[.bool false, .bool true, .int .i64 0]) ∧ Gr w w' := by
  have h := holds_ok 35 208 6 pan0 top0 top0 pa ta ba 4 2 2 false 3000 4000 thing0 good0 (by decide) rfl (by decide) td 3 w hp ht hb htd
  rw [fits_hi, fits_lo] at h
  exact h

theorem size0 (pa ta ba : Option Addr) (w : World) (hp : IRow w pa pan0) (ht : IRow w ta top0) (hb : IRow w ba top0) :
    Calls Try.prog 43 #[.agg #[.int .i64 35, .slice pa 4 4, .int .i64 208, .slice ta 2 2, .slice ba 2 2, .int .i64 6, .bool false]] w fun e w' => ∃ x y, e = .returned (.tuple #[.int .i64 x, .int .i64 410, .int .i64 y, .int .i64 0]) ∧ Gr w w' := by
  have h := size_ok 35 208 6 pan0 top0 top0 pa ta ba 4 2 2 false good0 w hp ht hb
  rw [along0] at h
  exact h.mono fun e w' hh => ⟨_, _, hh⟩

end Go.Proofs.Ytaommdjekddgiaa
