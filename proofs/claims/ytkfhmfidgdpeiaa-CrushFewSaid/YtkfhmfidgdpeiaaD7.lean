/- A lot that comes in. -/
import Derived.Test.YtkfhmfidgdpeiaaG3
import Derived.Test.YtkfhmfidgdpeiaaQd
namespace Go.Proofs.Ytkfhmfidgdpeiaa
set_option linter.unusedVariables false
set_option linter.unusedSimpArgs false
open Go.RowKit Go.ChangeShapes

/-- The pieces of a struct. -/
theorem struct_piece {H : Type} {enc : TypeId × Value → H} {P : Program} {W : World} {t : TypeId} {fs : Array Field} {fuel : Nat} {cs : List Value} {x : DataW H × List MemPlace} (hu : P.underlying t = some (.struct fs))
    (hx : DataW.trod enc P W 0 (fun _ => true) true fuel t cs = some x) :
    cs.length = P.cellsOf t ∧ ∃ n, ∀ g ∈ fs.toList, ∃ y, DataW.trod enc P W 0 (fun _ => true) true n g.type ((cs.drop g.offset).take (P.cellsOf g.type)) = some y := by
  cases fuel with
  | zero => simp [DataW.trod] at hx
  | succ n =>
    unfold DataW.trod at hx
    rw [hu] at hx
    simp only at hx
    split at hx
    case isFalse => cases hx
    rename_i hl
    obtain ⟨xs, hxs, _⟩ := Option.map_eq_some_iff.1 hx
    exact ⟨hl, n, fun g hg => mapM_at _ _ hxs g hg⟩

theorem mk2 (l : List Int) (hl : l.length = 2) (hw : ∀ n ∈ l, (Lit.int .u8 n).wf = true) : ∃ y : V2, encV2 y = l.map (Value.int .u8) ∧ B2 y := by
  match l, hl with
  | [a, b], _ => exact ⟨⟨a, b⟩, rfl, bounds_u8 (hw a (by simp)), bounds_u8 (hw b (by simp))⟩

set_option maxRecDepth 100000 in
theorem lot_open {H : Type} {enc : TypeId × Value → H} {W : World} {fuel : Nat} {cs : List Value} {x : DataW H × List MemPlace} (hx : DataW.trod enc Try.prog W 0 (fun _ => true) true fuel 83 cs = some x) :
    ∃ (r0 r1 r2 r3 of : Int) (T : List V2) (ta : Option Addr) (tc : Nat), cs = [.int .u8 r0, .int .u8 r1, .int .u8 r2, .int .u8 r3, .int .u8 of, .slice ta T.length tc] ∧ (0 ≤ r0 ∧ r0 ≤ 255) ∧ (0 ≤ r1 ∧ r1 ≤ 255) ∧ (0 ≤ r2 ∧ r2 ≤ 255) ∧ (0 ≤ r3 ∧ r3 ≤ 255) ∧ (0 ≤ of ∧ of ≤ 255) ∧ Row2 W ta T ∧ ∀ v ∈ T, B2 v := by
  obtain ⟨hl, n, hp⟩ := struct_piece Try.underlying83 hx
  rw [show Try.prog.cellsOf 83 = 6 from by kernel_rfl] at hl
  obtain ⟨c0, c1, c2, c3, c4, c5, rfl⟩ : ∃ c0 c1 c2 c3 c4 c5, cs = [c0, c1, c2, c3, c4, c5] := by
    match cs, hl with
    | [c0, c1, c2, c3, c4, c5], _ => exact ⟨c0, c1, c2, c3, c4, c5, rfl⟩
  obtain ⟨y0, h0⟩ := hp _ List.mem_cons_self
  obtain ⟨y1, h1⟩ := hp _ (List.mem_cons_of_mem _ List.mem_cons_self)
  obtain ⟨y2, h2⟩ := hp _ (List.mem_cons_of_mem _ (List.mem_cons_of_mem _ List.mem_cons_self))
  have h0' : DataW.trod enc Try.prog W 0 (fun _ => true) true n 80 [c0, c1, c2, c3] = some y0 := by
    have e : Try.prog.cellsOf 80 = 4 := by kernel_rfl
    simpa only [List.drop_zero, e, List.take_succ_cons, List.take_zero] using h0
  have h1' : DataW.trod enc Try.prog W 0 (fun _ => true) true n 5 [c4] = some y1 := by
    have e : Try.prog.cellsOf 5 = 1 := by kernel_rfl
    simpa only [List.drop_succ_cons, List.drop_zero, e, List.take_succ_cons, List.take_zero] using h1
  have h2' : DataW.trod enc Try.prog W 0 (fun _ => true) true n 81 [c5] = some y2 := by
    have e : Try.prog.cellsOf 81 = 1 := by kernel_rfl
    simpa only [List.drop_succ_cons, List.drop_zero, e, List.take_succ_cons, List.take_zero] using h2
  obtain ⟨_, hat⟩ := allK_open (k := .u8) 5 80 (by kernel_rfl) _ _ _ h0'
  obtain ⟨l, hcs, hw⟩ := ints_of _ hat
  obtain ⟨of, e4, hof⟩ := int_open Try.underlying5 h1'
  obtain ⟨ta, T, tc, e5, rT, hT⟩ := row_flat (f := 5) (en := encV2) (G := B2) Try.underlying81 (k := .u8) (by kernel_rfl) (by kernel_rfl) (by decide) mk2 h2'
  obtain ⟨r0, r1, r2, r3, rfl⟩ : ∃ r0 r1 r2 r3, l = [r0, r1, r2, r3] := by
    have hl4 : l.length = 4 := by
      have := congrArg List.length hcs
      simpa using this.symm
    match l, hl4 with
    | [r0, r1, r2, r3], _ => exact ⟨r0, r1, r2, r3, rfl⟩
  simp only [List.map_cons, List.map_nil, List.cons.injEq, and_true] at hcs e4 e5
  obtain ⟨rfl, rfl, rfl, rfl⟩ := hcs
  subst e4
  subst e5
  exact ⟨r0, r1, r2, r3, of, T, ta, tc, rfl, bounds_u8 (hw r0 (by simp)), bounds_u8 (hw r1 (by simp)), bounds_u8 (hw r2 (by simp)), bounds_u8 (hw r3 (by simp)), bounds_u8 hof, rT, hT⟩

end Go.Proofs.Ytkfhmfidgdpeiaa
