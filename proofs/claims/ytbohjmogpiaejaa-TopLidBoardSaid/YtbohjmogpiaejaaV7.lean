/- Contract of pubScore. -/
import Derived.Test.YtbohjmogpiaejaaV5
import Derived.Test.YtbohjmogpiaejaaV6
import Derived.Test.YtbohjmogpiaejaaS9
namespace Go.Proofs.Ytbohjmogpiaejaa
set_option linter.unusedVariables false
set_option linter.unusedSimpArgs false
open Go.RowKit

def pan0 : List Int := [304, 204, 304, 204]
def top0 : List Int := [101, 101]
def thing0 : List Int := [200, 300, 201]
theorem good0 : GoodB 35 208 6 pan0 top0 top0 false := by constructor <;> decide
theorem sort_thing0 : sortL thing0 = [200, 201, 300] := by simp [sortL, thing0, List.mergeSort, List.MergeSort.Internal.splitInTwo, List.merge]
theorem box_hi : fitsBox 0 208 pan0 top0 top0 false 4000 = [300000, 200000, 200000] := by decide +kernel
theorem box_lo : fitsBox 0 208 pan0 top0 top0 false 3000 = [301000, 201000, 202000] := by decide +kernel
theorem sort_hi : sortL [300000, 200000, 200000] = [200000, 200000, 300000] := by simp [sortL, List.mergeSort, List.MergeSort.Internal.splitInTwo, List.merge]
theorem sort_lo : sortL [301000, 201000, 202000] = [201000, 202000, 301000] := by simp [sortL, List.mergeSort, List.MergeSort.Internal.splitInTwo, List.merge]
theorem fits_hi : fitsL thing0 (fitsBox 0 208 pan0 top0 top0 false 4000) = false := by rw [box_hi, fitsL, sort_thing0, sort_hi]; decide
theorem fits_lo : fitsL thing0 (fitsBox 0 208 pan0 top0 top0 false 3000) = true := by rw [box_lo, fitsL, sort_thing0, sort_lo]; decide
theorem along0 : alongL 208 top0 top0 = 410 := by decide +kernel

theorem holds0 (pa ta ba td : Option Addr) (w : World) (hp : IRow w pa pan0) (ht : IRow w ta top0) (hb : IRow w ba top0) (htd : IRow w td thing0) :
    Calls Try.prog 20 #[.agg #[.int .i64 35, .slice pa 4 4, .int .i64 208, .slice ta 2 2, .slice ba 2 2, .int .i64 6, .bool false], .agg #[.int .i64 3000, .int .i64 4000], .slice td 3 3] w fun e w' => e = .returned (.tuple #[.bool false, .bool true, .int .i64 0]) ∧ Gr w w' := by
  have h := holds_ok 35 208 6 pan0 top0 top0 pa ta ba 4 2 2 false 3000 4000 thing0 good0 (by decide) rfl (by decide) td 3 w hp ht hb htd
  rw [fits_hi, fits_lo] at h
  exact h
theorem size0 (pa ta ba : Option Addr) (w : World) (hp : IRow w pa pan0) (ht : IRow w ta top0) (hb : IRow w ba top0) :
    Calls Try.prog 35 #[.agg #[.int .i64 35, .slice pa 4 4, .int .i64 208, .slice ta 2 2, .slice ba 2 2, .int .i64 6, .bool false]] w fun e w' => ∃ x y, e = .returned (.tuple #[.int .i64 x, .int .i64 410, .int .i64 y, .int .i64 0]) ∧ Gr w w' := by
  have h := size_ok 35 208 6 pan0 top0 top0 pa ta ba 4 2 2 false good0 w hp ht hb
  rw [along0] at h
  exact h.mono fun e w' hh => ⟨_, _, hh⟩

set_option maxRecDepth 100000 in
set_option maxHeartbeats 4000000 in
theorem pubScore_any (w : World) : Calls Try.prog 17 #[] w fun e w' => e = .returned (.bool true) ∧ Gr w w' := by
  go_enter Try.func17, Try.ntmps17
  go_upto_region 2 with fail
  refine wp_abs (fun U => Gr w U ∧ IRow U (some ⟨w.heap.size, 0, none⟩) pan0 ∧ IRow U (some ⟨w.heap.size + 1, 0, none⟩) top0 ∧ IRow U (some ⟨w.heap.size + 1 + 1, 0, none⟩) top0 ∧ Box U (w.heap.size + 1 + 1 + 1) [.int .i64 35, .slice (some ⟨w.heap.size, 0, none⟩) 4 4, .int .i64 208, .slice (some ⟨w.heap.size + 1, 0, none⟩) 2 2, .slice (some ⟨w.heap.size + 1 + 1, 0, none⟩) 2 2, .int .i64 6, .bool false])
    ⟨(((Gr.al _ _).tr (Gr.al _ _)).tr (Gr.al _ _)).tr (Gr.al _ _),
     (RowOf.lit (enc := encI) (sz := 1) (fun _ => rfl) _ 3 pan0 (by simp [pan0]) _ (by rfl) w.heap.size rfl).grow (((Gr.al _ _).tr (Gr.al _ _)).tr (Gr.al _ _)),
     (RowOf.lit (enc := encI) (sz := 1) (fun _ => rfl) _ 3 top0 (by simp [top0]) _ (by rfl) (w.heap.size + 1) (by simp)).grow ((Gr.al _ _).tr (Gr.al _ _)),
     (RowOf.lit (enc := encI) (sz := 1) (fun _ => rfl) _ 3 top0 (by simp [top0]) _ (by rfl) (w.heap.size + 1 + 1) (by simp)).grow (Gr.al _ _),
     Box.new _ [.int .i64 35, .slice (some ⟨w.heap.size, 0, none⟩) 4 4, .int .i64 208, .slice (some ⟨w.heap.size + 1, 0, none⟩) 2 2, .slice (some ⟨w.heap.size + 1 + 1, 0, none⟩) 2 2, .int .i64 6, .bool false] 40 (w.heap.size + 1 + 1 + 1) (by simp)⟩ ?_
  rintro U ⟨gU, hp, ht, hb, bX⟩
  have gX := Gr.dr U
  have gA := (Gr.al U (.cells #[.int .i64 200, .int .i64 300, .int .i64 201] 3)).tr (Gr.dr _)
  have rA := (RowOf.lit (enc := encI) (sz := 1) (fun _ => rfl) U 3 thing0 (by simp [thing0]) #[.int .i64 200, .int .i64 300, .int .i64 201] (by rfl) U.heap.size rfl).grow (Gr.dr _)
  obtain ⟨f0, f1, f2, f3, f4, f5, f6⟩ := (bX.keep gA).c7
  obtain ⟨e0, e1, e2, e3, e4, e5, e6⟩ := (bX.keep gX).c7
  go_region_held3 (fun w' => w'.cell? ⟨w.heap.size + 1 + 1 + 1, 0, none⟩ = some (.int .i64 35) ∧ w'.cell? ⟨w.heap.size + 1 + 1 + 1, 1, none⟩ = some (.slice (some ⟨w.heap.size, 0, none⟩) 4 4) ∧ w'.cell? ⟨w.heap.size + 1 + 1 + 1, 2, none⟩ = some (.int .i64 208) ∧ w'.cell? ⟨w.heap.size + 1 + 1 + 1, 3, none⟩ = some (.slice (some ⟨w.heap.size + 1, 0, none⟩) 2 2) ∧ w'.cell? ⟨w.heap.size + 1 + 1 + 1, 4, none⟩ = some (.slice (some ⟨w.heap.size + 1 + 1, 0, none⟩) 2 2) ∧ w'.cell? ⟨w.heap.size + 1 + 1 + 1, 5, none⟩ = some (.int .i64 6) ∧ w'.cell? ⟨w.heap.size + 1 + 1 + 1, 6, none⟩ = some (.bool false)) (first | exact ⟨e0, e1, e2, e3, e4, e5, e6⟩ | exact ⟨f0, f1, f2, f3, f4, f5, f6⟩ | go_keep) (first
    | (go_at_call 22; (refine (span_any _ _ _).mono ?_); rintro e w2 ⟨rfl, hy⟩; have g2 : Gr _ w2 := (by first | exact gX.tr hy | exact gA.tr hy); obtain ⟨e0, e1, e2, e3, e4, e5, e6⟩ := (bX.keep g2).c7)
    | (go_at_call 20; (refine (holds0 _ _ _ _ _ ?_ ?_ ?_ ?_).mono ?_); (first | exact hp.grow g2 | exact hp.grow (g2.tr (Gr.al _ _))); (first | exact ht.grow g2 | exact ht.grow (g2.tr (Gr.al _ _))); (first | exact hb.grow g2 | exact hb.grow (g2.tr (Gr.al _ _))); (first | exact rA.grow hy | exact RowOf.lit (enc := encI) (sz := 1) (fun _ => rfl) w2 3 thing0 (by simp [thing0]) _ (by rfl) w2.heap.size rfl); rintro e w3 ⟨rfl, hz⟩; have g3 : Gr _ w3 := (by first | exact g2.tr hz | exact g2.tr ((Gr.al _ _).tr hz)); obtain ⟨e0, e1, e2, e3, e4, e5, e6⟩ := (bX.keep g3).c7))
  all_goals
    go_wp2_with fail
    refine (size0 _ _ _ _ (hp.grow g3) (ht.grow g3) (hb.grow g3)).mono ?_
    rintro e w4 ⟨x, y, rfl, h4⟩
    go_wp2
    go_ret
    exact ⟨rfl, gU.tr (g3.tr h4)⟩

end Go.Proofs.Ytbohjmogpiaejaa
