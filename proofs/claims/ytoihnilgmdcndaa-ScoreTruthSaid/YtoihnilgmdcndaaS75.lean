/- ScoreTruth returns true for every input, and its arguments read afterwards as they read before. No condition. -/
import Derived.Test.YtoihnilgmdcndaaRows
import Derived.Test.YtoihnilgmdcndaaS75b
import Derived.Test.YtoihnilgmdcndaaQS75b
import Derived.WalkKit
import Derived.ProofKit
import Derived.OpenShut
namespace Go.Proofs.Ytoihnilgmdcndaa
set_option linter.unusedVariables false
set_option linter.unusedSimpArgs false
open Go.ChangeShapes Go.WideShapes Go.ChangeAt Go.RowKit

theorem noGodebug : ownKnob Try.prog.godebug = none := by kernel_rfl

theorem laidAll : laidOutB Try.prog = true := by kernel_rfl

theorem tt_params : ∀ t ∈ Try.f11.params.toList, Try.prog.readableRec t = true ∧ t < Try.prog.types.size := by
  rw [Try.params11]
  intro t ht
  simp only [List.mem_cons, List.not_mem_nil, or_false] at ht
  rcases ht with rfl | rfl | rfl
  · exact ⟨by kernel_rfl, of_decide_eq_true (by kernel_rfl)⟩
  · exact ⟨by kernel_rfl, of_decide_eq_true (by kernel_rfl)⟩
  · exact ⟨by kernel_rfl, of_decide_eq_true (by kernel_rfl)⟩

set_option maxRecDepth 100000 in
theorem tt_contract (H : Type) (enc : TypeId × Value → H) (W : World) (base : Nat) (args : Array Value) (ds gs : List (DataW H)) (before : List MemPlace)
    (hval : ∀ (j : Nat) t v, Try.f11.params[j]? = some t → args[j]? = some v → Value.okWide Try.prog W .any base t v)
    (hW : DataW.Whole enc Try.prog Try.f11.params.toList Rows.scoreTruthSpec.vars false W args.toList ds gs before) :
    Calls Try.prog 11 args W fun e W' => ∃ v, e = .returned v ∧ Rows.scoreTruthSpec.post enc Try.prog Try.f11 false true false false W args v W' := by
  have hW' := hW
  obtain ⟨p, q, hA0, hV, rfl, hfz, hnd⟩ := hW
  have hA : DataW.TrodAll enc Try.prog W 0 (fun _ => true) true Try.f11.params.toList args.toList ds p := hA0
  rw [Try.params11] at hA hval
  obtain ⟨v0, vs0, d0, ds0, p0, q0, hargs, rfl, rfl, h0, r0⟩ := trodAll_cons hA
  obtain ⟨v1, vs1, d1, ds1, p1, q1, rfl, rfl, rfl, h1, r1⟩ := trodAll_cons r0
  obtain ⟨v2, vs2, d2, ds2, p2, q2, rfl, rfl, rfl, h2, r2⟩ := trodAll_cons r1
  obtain ⟨rfl, rfl, rfl⟩ := trodAll_nil r2
  obtain rfl : args = #[v0, v1, v2] := by cases args; simp_all
  obtain ⟨rfl, rfl⟩ := trodVars_none hV
  obtain ⟨cpx, rfl, _⟩ := okWide_struct Try.underlying69 (hval 0 69 _ rfl rfl)
  obtain ⟨fuelpx, hxpx⟩ := h0
  obtain ⟨p0x, p1x, p2x, p3x, hx, f0x, f1x, f2x, f3x, ox, c0x, c1x, w0x, w1x, w2x, w3x, w4x, hcpx, hp0x, hp1x, hp2x, hp3x, hhx, hf0x, hf1x, hf2x, hf3x, hc0x, hc1x, hw0x, hw1x, hw2x, hw3x, hw4x⟩ := sheet_open hxpx
  obtain rfl : cpx = #[.int .u8 p0x, .int .u8 p1x, .int .u8 p2x, .int .u8 p3x, .int .u8 hx, .int .u8 f0x, .int .u8 f1x, .int .u8 f2x, .int .u8 f3x, .bool ox, .int .u8 c0x, .int .u8 c1x, .int .u8 w0x, .int .u8 w1x, .int .u8 w2x, .int .u8 w3x, .int .u8 w4x] := by
    cases cpx with
    | mk cp =>
      simp only [Value.cells] at hcpx
      subst hcpx
      rfl
  clear hxpx hcpx
  obtain ⟨li1, rfl, hli1, hwi1⟩ := agg_ints (k := .i8) (f := 10) (t := 89) (by kernel_rfl) (by rw [show Try.prog.cellsOf 89 = 9 from by kernel_rfl]; decide) h1
  rw [show Try.prog.cellsOf 89 = 9 from by kernel_rfl] at hli1
  obtain ⟨j0, j1, j2, j3, j4, j5, j6, j7, j8, rfl⟩ : ∃ j0 j1 j2 j3 j4 j5 j6 j7 j8, li1 = [j0, j1, j2, j3, j4, j5, j6, j7, j8] := by
    match li1, hli1 with
    | [j0, j1, j2, j3, j4, j5, j6, j7, j8], _ => exact ⟨j0, j1, j2, j3, j4, j5, j6, j7, j8, rfl⟩
  obtain ⟨li2, rfl, hli2, hwi2⟩ := agg_ints (k := .u8) (f := 5) (t := 66) (by kernel_rfl) (by rw [show Try.prog.cellsOf 66 = 2 from by kernel_rfl]; decide) h2
  rw [show Try.prog.cellsOf 66 = 2 from by kernel_rfl] at hli2
  obtain ⟨y0, y1, rfl⟩ : ∃ y0 y1, li2 = [y0, y1] := by
    match li2, hli2 with
    | [y0, y1], _ => exact ⟨y0, y1, rfl⟩
  clear hA0
  refine (truth_body p0x p1x p2x p3x hx f0x f1x f2x f3x ox c0x c1x w0x w1x w2x w3x w4x hp0x hp1x hp2x hp3x hhx hf0x hf1x hf2x hf3x hc0x hc1x hw0x hw1x hw2x hw3x hw4x j0 j1 j2 j3 j4 j5 j6 j7 j8 (fun j hj => bounds_i8 (hwi1 j hj)) y0 y1 (bounds_u8 (hwi2 y0 (by simp))) (bounds_u8 (hwi2 y1 (by simp))) W).mono fun e W' ⟨he, hg⟩ => ?_
  subst he
  exact ⟨_, rfl, law_true laidAll tt_params Try.underlying4 (by kernel_rfl) rfl rfl hW' hg⟩

set_option maxRecDepth 100000 in
theorem tt_lifted (os : Os) (started : os.Started) (H : Type) (enc : TypeId × Value → H) :
    ReturnsInHanded {} Try.checked os 11 .any (Rows.scoreTruthSpec.pre6 enc Try.prog Try.f11 Rows.scoreTruthRow.domain false) (Rows.scoreTruthSpec.post enc Try.prog Try.f11 false true false false) := by
  refine returnsInHanded_of_change (C := Try.checked) noGodebug started (by kernel_rfl) Try.func11
    (ChangeSpec.witness6 (enc := enc) (C := Try.checked) false ⟨#[], #[.agg #[.int .u8 0, .int .u8 0, .int .u8 0, .int .u8 0, .int .u8 0, .int .u8 0, .int .u8 0, .int .u8 0, .int .u8 0, .bool false, .int .u8 0, .int .u8 0, .int .u8 0, .int .u8 0, .int .u8 0, .int .u8 0, .int .u8 0], .agg #[.int .i8 0, .int .i8 0, .int .i8 0, .int .i8 0, .int .i8 0, .int .i8 0, .int .i8 0, .int .i8 0, .int .i8 0], .agg #[.int .u8 0, .int .u8 0]], []⟩ 8 (by kernel_rfl) (by kernel_rfl) (by kernel_rfl) (by kernel_rfl)) ?_
  intro W base args ds gs before hval hW _ _
  exact tt_contract H enc W base args ds gs before hval hW

theorem scoreTruth_holds : Rows.ScoreTruthSaid :=
  OpenClaim.holds_of_wide 11 Try.f11 rfl rfl rfl rfl rfl rfl rfl ⟨rfl, rfl, rfl, rfl, rfl⟩ rfl rfl rfl rfl rfl (by kernel_rfl) Try.func11 (by kernel_rfl)
    (of_decide_eq_true (by kernel_rfl)) (by unfold Func.isWrapper; first | (rw [if_pos (by decide +kernel)]; kernel_rfl) | (rw [if_neg (by decide +kernel)]; exact ⟨rfl, rfl⟩))
    (fun os started H enc _ => tt_lifted os started H enc)
#print axioms scoreTruth_holds

end Go.Proofs.Ytoihnilgmdcndaa
