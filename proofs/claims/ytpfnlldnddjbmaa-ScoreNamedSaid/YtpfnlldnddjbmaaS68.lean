/- ScoreNamed returns true for every input, and its arguments read afterwards as they read before. No condition. -/
import Derived.Test.YtpfnlldnddjbmaaRows
import Derived.Test.YtpfnlldnddjbmaaQS68b
import Derived.WalkKit
import Derived.ProofKit
import Derived.OpenShut
namespace Go.Proofs.Ytpfnlldnddjbmaa
set_option linter.unusedVariables false
set_option linter.unusedSimpArgs false
open Go.ChangeShapes Go.WideShapes Go.ChangeAt Go.RowKit

theorem noGodebug : ownKnob Try.prog.godebug = none := by kernel_rfl

theorem laidAll : laidOutB Try.prog = true := by kernel_rfl

theorem nm_params : ∀ t ∈ Try.f9.params.toList, Try.prog.readableRec t = true ∧ t < Try.prog.types.size := by
  rw [Try.params9]
  intro t ht
  simp only [List.mem_cons, List.not_mem_nil, or_false] at ht
  rcases ht with rfl | rfl
  · exact ⟨by kernel_rfl, of_decide_eq_true (by kernel_rfl)⟩
  · exact ⟨by kernel_rfl, of_decide_eq_true (by kernel_rfl)⟩

set_option maxRecDepth 100000 in
theorem nm_contract (H : Type) (enc : TypeId × Value → H) (W : World) (base : Nat) (args : Array Value) (ds gs : List (DataW H)) (before : List MemPlace)
    (hval : ∀ (j : Nat) t v, Try.f9.params[j]? = some t → args[j]? = some v → Value.okWide Try.prog W .any base t v)
    (hW : DataW.Whole enc Try.prog Try.f9.params.toList Rows.scoreNamedSpec.vars false W args.toList ds gs before) :
    Calls Try.prog 9 args W fun e W' => ∃ v, e = .returned v ∧ Rows.scoreNamedSpec.post enc Try.prog Try.f9 false true false false W args v W' := by
  have hW' := hW
  obtain ⟨p, q, hA0, hV, rfl, hfz, hnd⟩ := hW
  have hA : DataW.TrodAll enc Try.prog W 0 (fun _ => true) true Try.f9.params.toList args.toList ds p := hA0
  rw [Try.params9] at hA hval
  obtain ⟨v0, vs0, d0, ds0, p0, q0, hargs, rfl, rfl, h0, r0⟩ := trodAll_cons hA
  obtain ⟨v1, vs1, d1, ds1, p1, q1, rfl, rfl, rfl, h1, r1⟩ := trodAll_cons r0
  obtain ⟨rfl, rfl, rfl⟩ := trodAll_nil r1
  obtain rfl : args = #[v0, v1] := by cases args; simp_all
  obtain ⟨rfl, rfl⟩ := trodVars_none hV
  obtain ⟨cpx, rfl, _⟩ := okWide_struct Try.underlying69 (hval 0 69 _ rfl rfl)
  obtain ⟨fuelpx, hxpx⟩ := h0
  obtain ⟨p0x, p1x, p2x, p3x, hx, f0x, f1x, f2x, f3x, ox, c0x, c1x, w0x, w1x, w2x, w3x, w4x, hcpx, hp0x, hp1x, hp2x, hp3x, hhx, hf0x, hf1x, hf2x, hf3x, hc0x, hc1x, hw0x, hw1x, hw2x, hw3x, hw4x⟩ := sheet_open hxpx
  obtain rfl : cpx = #[.int .u8 p0x, .int .u8 p1x, .int .u8 p2x, .int .u8 p3x, .int .u8 hx, .int .u8 f0x, .int .u8 f1x, .int .u8 f2x, .int .u8 f3x, .bool ox, .int .u8 c0x, .int .u8 c1x, .int .u8 w0x, .int .u8 w1x, .int .u8 w2x, .int .u8 w3x, .int .u8 w4x] := by
    cases cpx with
    | mk cp =>
      simp only [Value.cells] at hcpx
      subst hcpx
      rfl
  clear hxpx hcpx
  obtain ⟨cpy, rfl, _⟩ := okWide_struct Try.underlying69 (hval 1 69 _ rfl rfl)
  obtain ⟨fuelpy, hxpy⟩ := h1
  obtain ⟨p0y, p1y, p2y, p3y, hy, f0y, f1y, f2y, f3y, oy, c0y, c1y, w0y, w1y, w2y, w3y, w4y, hcpy, hp0y, hp1y, hp2y, hp3y, hhy, hf0y, hf1y, hf2y, hf3y, hc0y, hc1y, hw0y, hw1y, hw2y, hw3y, hw4y⟩ := sheet_open hxpy
  obtain rfl : cpy = #[.int .u8 p0y, .int .u8 p1y, .int .u8 p2y, .int .u8 p3y, .int .u8 hy, .int .u8 f0y, .int .u8 f1y, .int .u8 f2y, .int .u8 f3y, .bool oy, .int .u8 c0y, .int .u8 c1y, .int .u8 w0y, .int .u8 w1y, .int .u8 w2y, .int .u8 w3y, .int .u8 w4y] := by
    cases cpy with
    | mk cp =>
      simp only [Value.cells] at hcpy
      subst hcpy
      rfl
  clear hxpy hcpy
  clear hA0
  refine (named_body p0x p1x p2x p3x hx f0x f1x f2x f3x ox c0x c1x w0x w1x w2x w3x w4x hp0x hp1x hp2x hp3x hhx hf0x hf1x hf2x hf3x hc0x hc1x hw0x hw1x hw2x hw3x hw4x p0y p1y p2y p3y hy f0y f1y f2y f3y oy c0y c1y w0y w1y w2y w3y w4y hp0y hp1y hp2y hp3y hhy hf0y hf1y hf2y hf3y hc0y hc1y hw0y hw1y hw2y hw3y hw4y W).mono fun e W' ⟨he, hg⟩ => ?_
  subst he
  exact ⟨_, rfl, law_true laidAll nm_params Try.underlying4 (by kernel_rfl) rfl rfl hW' hg⟩

set_option maxRecDepth 100000 in
theorem nm_lifted (os : Os) (started : os.Started) (H : Type) (enc : TypeId × Value → H) :
    ReturnsInHanded {} Try.checked os 9 .any (Rows.scoreNamedSpec.pre6 enc Try.prog Try.f9 Rows.scoreNamedRow.domain false) (Rows.scoreNamedSpec.post enc Try.prog Try.f9 false true false false) := by
  refine returnsInHanded_of_change (C := Try.checked) noGodebug started (by kernel_rfl) Try.func9
    (ChangeSpec.witness6 (enc := enc) (C := Try.checked) false ⟨#[], #[.agg #[.int .u8 0, .int .u8 0, .int .u8 0, .int .u8 0, .int .u8 0, .int .u8 0, .int .u8 0, .int .u8 0, .int .u8 0, .bool false, .int .u8 0, .int .u8 0, .int .u8 0, .int .u8 0, .int .u8 0, .int .u8 0, .int .u8 0], .agg #[.int .u8 0, .int .u8 0, .int .u8 0, .int .u8 0, .int .u8 0, .int .u8 0, .int .u8 0, .int .u8 0, .int .u8 0, .bool false, .int .u8 0, .int .u8 0, .int .u8 0, .int .u8 0, .int .u8 0, .int .u8 0, .int .u8 0]], []⟩ 8 (by kernel_rfl) (by kernel_rfl) (by kernel_rfl) (by kernel_rfl)) ?_
  intro W base args ds gs before hval hW _ _
  exact nm_contract H enc W base args ds gs before hval hW

theorem scoreNamed_holds : Rows.ScoreNamedSaid :=
  OpenClaim.holds_of_wide 9 Try.f9 rfl rfl rfl rfl rfl rfl rfl ⟨rfl, rfl, rfl, rfl, rfl⟩ rfl rfl rfl rfl rfl (by kernel_rfl) Try.func9 (by kernel_rfl)
    (of_decide_eq_true (by kernel_rfl)) (by unfold Func.isWrapper; first | (rw [if_pos (by decide +kernel)]; kernel_rfl) | (rw [if_neg (by decide +kernel)]; exact ⟨rfl, rfl⟩))
    (fun os started H enc _ => nm_lifted os started H enc)
#print axioms scoreNamed_holds

end Go.Proofs.Ytpfnlldnddjbmaa
