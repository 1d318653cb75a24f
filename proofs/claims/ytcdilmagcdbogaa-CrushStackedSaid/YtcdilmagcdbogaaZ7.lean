/- CrushStacked returns true for every input, and each argument reads afterwards as it read before. No condition. -/
import Derived.Test.YtcdilmagcdbogaaRows
import Derived.Test.YtcdilmagcdbogaaQZ7c
import Derived.WalkKit
import Derived.ProofKit
import Derived.OpenShut
namespace Go.Proofs.Ytcdilmagcdbogaa
set_option linter.unusedVariables false
set_option linter.unusedSimpArgs false
open Go.ChangeShapes Go.WideShapes Go.ChangeAt Go.RowKit

theorem noGodebug : ownKnob Try.prog.godebug = none := by kernel_rfl

theorem laidAll : laidOutB Try.prog = true := by kernel_rfl

set_option maxRecDepth 100000 in
theorem byte_open {H : Type} {enc : TypeId × Value → H} {W : World} {v : Value} {d : DataW H} {ps : List MemPlace} {r : Reach} {b0 : Nat} (hval : Value.okWide Try.prog W r b0 5 v) (h : DataW.Trod enc Try.prog W 0 (fun _ => true) true 5 v d ps) : ∃ n, v = .int .u8 n ∧ 0 ≤ n ∧ n ≤ 255 := by
  obtain ⟨n, rfl⟩ := okWide_int Try.underlying5 hval
  obtain ⟨fuel, hf⟩ := h
  obtain ⟨n', e, hw⟩ := int_open Try.underlying5 hf
  have e' : [Value.int .u8 n] = [.int .u8 n'] := e
  injection e' with e1 _
  injection e1 with _ e2
  subst e2
  exact ⟨n, rfl, bounds_u8 hw⟩

theorem sk_params : ∀ t ∈ Try.f14.params.toList, Try.prog.readableRec t = true ∧ t < Try.prog.types.size := by
  rw [Try.params14]
  intro t ht
  simp only [List.mem_cons, List.not_mem_nil, or_false] at ht
  rcases ht with rfl | rfl | rfl
  · exact ⟨by kernel_rfl, of_decide_eq_true (by kernel_rfl)⟩
  · exact ⟨by kernel_rfl, of_decide_eq_true (by kernel_rfl)⟩
  · exact ⟨by kernel_rfl, of_decide_eq_true (by kernel_rfl)⟩

set_option maxRecDepth 100000 in
theorem sk_contract (H : Type) (enc : TypeId × Value → H) (W : World) (base : Nat) (args : Array Value) (ds gs : List (DataW H)) (before : List MemPlace)
    (hval : ∀ (j : Nat) t v, Try.f14.params[j]? = some t → args[j]? = some v → Value.okWide Try.prog W .any base t v)
    (hW : DataW.Whole enc Try.prog Try.f14.params.toList Rows.crushStackedSpec.vars false W args.toList ds gs before) :
    Calls Try.prog 14 args W fun e W' => ∃ v, e = .returned v ∧ Rows.crushStackedSpec.post enc Try.prog Try.f14 false true false false W args v W' := by
  have hW' := hW
  obtain ⟨p, q, hA0, hV, rfl, hfz, hnd⟩ := hW
  have hA : DataW.TrodAll enc Try.prog W 0 (fun _ => true) true Try.f14.params.toList args.toList ds p := hA0
  rw [Try.params14] at hA hval
  obtain ⟨v0, vs0, d0, ds0, p0, q0, hargs, rfl, rfl, h0, r0⟩ := trodAll_cons hA
  obtain ⟨v1, vs1, d1, ds1, p1, q1, rfl, rfl, rfl, h1, r1⟩ := trodAll_cons r0
  obtain ⟨v2, vs2, d2, ds2, p2, q2, rfl, rfl, rfl, h2, r2⟩ := trodAll_cons r1
  obtain ⟨rfl, rfl, rfl⟩ := trodAll_nil r2
  obtain rfl : args = #[v0, v1, v2] := by cases args; simp_all
  obtain ⟨rfl, rfl⟩ := trodVars_none hV
  obtain ⟨cp, rfl, _⟩ := okWide_struct Try.underlying105 (hval 0 105 _ rfl rfl)
  obtain ⟨fuelp, hxp⟩ := h0
  obtain ⟨X, xa, xc, S, sa, sc, hcp, rX, hX, rS, hS⟩ := pile_open hxp
  obtain rfl : cp = #[.slice xa X.length xc, .slice sa S.length sc] := by
    cases cp with
    | mk cp =>
      simp only [Value.cells] at hcp
      subst hcp
      rfl
  clear hxp hcp
  obtain ⟨ya, Y, yc, rfl, rY, hY⟩ := row_bytes Try.underlying93 Try.underlying5 (by kernel_rfl) (hval 1 93 _ rfl rfl) h1
  obtain ⟨days, rfl, days0, days1⟩ := byte_open (hval 2 5 _ rfl rfl) h2
  clear hA0
  refine (crushStacked_any X S Y days hX hS hY days0 days1 xa sa ya xc sc yc W rX rS rY).mono fun e W' ⟨he, hg⟩ => ?_
  subst he
  exact ⟨_, rfl, law_true laidAll sk_params Try.underlying4 (by kernel_rfl) rfl rfl hW' hg⟩

set_option maxRecDepth 100000 in
theorem sk_lifted (os : Os) (started : os.Started) (H : Type) (enc : TypeId × Value → H) :
    ReturnsInHanded {} Try.checked os 14 .any (Rows.crushStackedSpec.pre6 enc Try.prog Try.f14 Rows.crushStackedRow.domain false) (Rows.crushStackedSpec.post enc Try.prog Try.f14 false true false false) := by
  refine returnsInHanded_of_change (C := Try.checked) noGodebug started (by kernel_rfl) Try.func14
    (ChangeSpec.witness6 (enc := enc) (C := Try.checked) false ⟨#[], #[.agg #[.slice none 0 0, .slice none 0 0], .slice none 0 0, .int .u8 0], []⟩ 8 (by kernel_rfl) (by kernel_rfl) (by kernel_rfl) (by kernel_rfl)) ?_
  intro W base args ds gs before hval hW _ _
  exact sk_contract H enc W base args ds gs before hval hW

theorem crushStacked_holds : Rows.CrushStackedSaid :=
  OpenClaim.holds_of_wide 14 Try.f14 rfl rfl rfl rfl rfl rfl rfl ⟨rfl, rfl, rfl, rfl, rfl⟩ rfl rfl rfl rfl rfl (by kernel_rfl) Try.func14 (by kernel_rfl)
    (of_decide_eq_true (by kernel_rfl)) (by unfold Func.isWrapper; first | (rw [if_pos (by decide +kernel)]; kernel_rfl) | (rw [if_neg (by decide +kernel)]; exact ⟨rfl, rfl⟩))
    (fun os started H enc _ => sk_lifted os started H enc)
#print axioms crushStacked_holds

end Go.Proofs.Ytcdilmagcdbogaa
