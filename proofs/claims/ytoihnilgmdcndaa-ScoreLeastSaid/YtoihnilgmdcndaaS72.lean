/- ScoreLeast returns true for every input, and its arguments read afterwards as they read before. No condition. -/
import Derived.Test.YtoihnilgmdcndaaRows
import Derived.Test.YtoihnilgmdcndaaQS72b
import Derived.WalkKit
import Derived.ProofKit
import Derived.OpenShut
namespace Go.Proofs.Ytoihnilgmdcndaa
set_option linter.unusedVariables false
set_option linter.unusedSimpArgs false
open Go.ChangeShapes Go.WideShapes Go.ChangeAt Go.RowKit

theorem noGodebug : ownKnob Try.prog.godebug = none := by kernel_rfl

theorem laidAll : laidOutB Try.prog = true := by kernel_rfl

set_option maxRecDepth 100000 in
theorem byte_open {H : Type} {enc : TypeId × Value → H} {W : World} {v : Value} {d : DataW H} {ps : List MemPlace} {r : Reach} {b0 : Nat} (hval : Value.okWide Try.prog W r b0 5 v) (h : DataW.Trod enc Try.prog W 0 (fun _ => true) true 5 v d ps) : ∃ n, v = .int .u8 n ∧ 0 ≤ n ∧ n ≤ 255 := by
  obtain ⟨n, rfl⟩ := okWide_int Try.underlying5 hval
  obtain ⟨fuel, hf⟩ := h
  obtain ⟨n', e, hw⟩ := int_open Try.underlying5 hf
  have e' : [Value.int .u8 n] = [.int .u8 n'] := e
  injection e' with e1 _
  injection e1 with _ e2
  subst e2
  exact ⟨n, rfl, bounds_u8 hw⟩

theorem le_params : ∀ t ∈ Try.f10.params.toList, Try.prog.readableRec t = true ∧ t < Try.prog.types.size := by
  rw [Try.params10]
  intro t ht
  simp only [List.mem_cons, List.not_mem_nil, or_false] at ht
  rcases ht with rfl | rfl
  · exact ⟨by kernel_rfl, of_decide_eq_true (by kernel_rfl)⟩
  · exact ⟨by kernel_rfl, of_decide_eq_true (by kernel_rfl)⟩

set_option maxRecDepth 100000 in
theorem le_contract (H : Type) (enc : TypeId × Value → H) (W : World) (base : Nat) (args : Array Value) (ds gs : List (DataW H)) (before : List MemPlace)
    (hval : ∀ (j : Nat) t v, Try.f10.params[j]? = some t → args[j]? = some v → Value.okWide Try.prog W .any base t v)
    (hW : DataW.Whole enc Try.prog Try.f10.params.toList Rows.scoreLeastSpec.vars false W args.toList ds gs before) :
    Calls Try.prog 10 args W fun e W' => ∃ v, e = .returned v ∧ Rows.scoreLeastSpec.post enc Try.prog Try.f10 false true false false W args v W' := by
  have hW' := hW
  obtain ⟨p, q, hA0, hV, rfl, hfz, hnd⟩ := hW
  have hA : DataW.TrodAll enc Try.prog W 0 (fun _ => true) true Try.f10.params.toList args.toList ds p := hA0
  rw [Try.params10] at hA hval
  obtain ⟨v0, vs0, d0, ds0, p0, q0, hargs, rfl, rfl, h0, r0⟩ := trodAll_cons hA
  obtain ⟨v1, vs1, d1, ds1, p1, q1, rfl, rfl, rfl, h1, r1⟩ := trodAll_cons r0
  obtain ⟨rfl, rfl, rfl⟩ := trodAll_nil r1
  obtain rfl : args = #[v0, v1] := by cases args; simp_all
  obtain ⟨rfl, rfl⟩ := trodVars_none hV
  obtain ⟨cpx, rfl, _⟩ := okWide_struct Try.underlying69 (hval 0 69 _ rfl rfl)
  obtain ⟨fuelpx, hxpx⟩ := h0
  obtain ⟨p0x, p1x, p2x, p3x, hx, f0x, f1x, f2x, f3x, ox, c0x, c1x, w0x, w1x, w2x, w3x, w4x, hcpx, hp0x, hp1x, hp2x, hp3x, hhx, hf0x, hf1x, hf2x, hf3x, hc0x, hc1x, hw0x, hw1x, hw2x, hw3x, hw4x⟩ := sheet_open hxpx
  obtain rfl : cpx = #[.int .u8 p0x, .int .u8 p1x, .int .u8 p2x, .int .u8 p3x, .int .u8 hx, .int .u8 f0x, .int .u8 f1x, .int .u8 f2x, .int .u8 f3x, .bool ox, .int .u8 c0x, .int .u8 c1x, .int .u8 w0x, .int .u8 w1x, .int .u8 w2x, .int .u8 w3x, .int .u8 w4x] := by
    cases cpx with
    | mk cp =>
      simp only [Value.cells] at hcpx
      subst hcpx
      rfl
  clear hxpx hcpx
  obtain ⟨wh, rfl, wh0, wh1⟩ := byte_open (hval 1 5 _ rfl rfl) h1
  clear hA0
  refine (least_body p0x p1x p2x p3x hx f0x f1x f2x f3x ox c0x c1x w0x w1x w2x w3x w4x hp0x hp1x hp2x hp3x hhx hf0x hf1x hf2x hf3x hc0x hc1x hw0x hw1x hw2x hw3x hw4x wh ⟨wh0, wh1⟩ W).mono fun e W' ⟨he, hg⟩ => ?_
  subst he
  exact ⟨_, rfl, law_true laidAll le_params Try.underlying4 (by kernel_rfl) rfl rfl hW' hg⟩

set_option maxRecDepth 100000 in
theorem le_lifted (os : Os) (started : os.Started) (H : Type) (enc : TypeId × Value → H) :
    ReturnsInHanded {} Try.checked os 10 .any (Rows.scoreLeastSpec.pre6 enc Try.prog Try.f10 Rows.scoreLeastRow.domain false) (Rows.scoreLeastSpec.post enc Try.prog Try.f10 false true false false) := by
  refine returnsInHanded_of_change (C := Try.checked) noGodebug started (by kernel_rfl) Try.func10
    (ChangeSpec.witness6 (enc := enc) (C := Try.checked) false ⟨#[], #[.agg #[.int .u8 0, .int .u8 0, .int .u8 0, .int .u8 0, .int .u8 0, .int .u8 0, .int .u8 0, .int .u8 0, .int .u8 0, .bool false, .int .u8 0, .int .u8 0, .int .u8 0, .int .u8 0, .int .u8 0, .int .u8 0, .int .u8 0], .int .u8 0], []⟩ 8 (by kernel_rfl) (by kernel_rfl) (by kernel_rfl) (by kernel_rfl)) ?_
  intro W base args ds gs before hval hW _ _
  exact le_contract H enc W base args ds gs before hval hW

theorem scoreLeast_holds : Rows.ScoreLeastSaid :=
  OpenClaim.holds_of_wide 10 Try.f10 rfl rfl rfl rfl rfl rfl rfl ⟨rfl, rfl, rfl, rfl, rfl⟩ rfl rfl rfl rfl rfl (by kernel_rfl) Try.func10 (by kernel_rfl)
    (of_decide_eq_true (by kernel_rfl)) (by unfold Func.isWrapper; first | (rw [if_pos (by decide +kernel)]; kernel_rfl) | (rw [if_neg (by decide +kernel)]; exact ⟨rfl, rfl⟩))
    (fun os started H enc _ => le_lifted os started H enc)
#print axioms scoreLeast_holds

end Go.Proofs.Ytoihnilgmdcndaa
