/- CrushOut returns true for every input, and each argument reads afterwards as it read before. No condition. -/
import Derived.Test.YtkfhmfidgdpeiaaRows
import Derived.Test.YtkfhmfidgdpeiaaH3
import Derived.Test.YtkfhmfidgdpeiaaG3
import Derived.WalkKit
import Derived.ProofKit
import Derived.OpenShut
namespace Go.Proofs.Ytkfhmfidgdpeiaa
set_option linter.unusedVariables false
set_option linter.unusedSimpArgs false
open Go.ChangeShapes Go.WideShapes Go.ChangeAt Go.RowKit

theorem noGodebug : ownKnob Try.prog.godebug = none := by kernel_rfl

theorem laidAll : laidOutB Try.prog = true := by kernel_rfl

theorem wf16 {n : Int} (h : (Lit.int .u16 n).wf = true) : 0 ≤ n ∧ n ≤ 65535 := by
  simp [Lit.wf, IntKind.wrap, IntKind.bits, IntKind.signed] at h
  have h1 : IntKind.u16.min = 0 := by decide
  have h2 : IntKind.u16.max = 65535 := by decide
  omega

set_option maxRecDepth 100000 in
theorem u16_open {H : Type} {enc : TypeId × Value → H} {W : World} {v : Value} {d : DataW H} {ps : List MemPlace} {r : Reach} {b0 : Nat} (hval : Value.okWide Try.prog W r b0 91 v) (h : DataW.Trod enc Try.prog W 0 (fun _ => true) true 91 v d ps) : ∃ n, v = .int .u16 n ∧ 0 ≤ n ∧ n ≤ 65535 := by
  obtain ⟨n, rfl⟩ := okWide_int Try.underlying91 hval
  obtain ⟨fuel, hf⟩ := h
  obtain ⟨n', e, hw⟩ := int_open Try.underlying91 hf
  have e' : [Value.int .u16 n] = [.int .u16 n'] := e
  injection e' with e1 _
  injection e1 with _ e2
  subst e2
  exact ⟨n, rfl, wf16 hw⟩

theorem ou_params : ∀ t ∈ Try.f11.params.toList, Try.prog.readableRec t = true ∧ t < Try.prog.types.size := by
  rw [Try.params11]
  intro t ht
  simp only [List.mem_cons, List.not_mem_nil, or_false] at ht
  rcases ht with rfl | rfl | rfl
  · exact ⟨by kernel_rfl, of_decide_eq_true (by kernel_rfl)⟩
  · exact ⟨by kernel_rfl, of_decide_eq_true (by kernel_rfl)⟩
  · exact ⟨by kernel_rfl, of_decide_eq_true (by kernel_rfl)⟩

set_option maxRecDepth 100000 in
theorem ou_contract (H : Type) (enc : TypeId × Value → H) (W : World) (base : Nat) (args : Array Value) (ds gs : List (DataW H)) (before : List MemPlace)
    (hval : ∀ (j : Nat) t v, Try.f11.params[j]? = some t → args[j]? = some v → Value.okWide Try.prog W .any base t v)
    (hW : DataW.Whole enc Try.prog Try.f11.params.toList Rows.crushOutSpec.vars false W args.toList ds gs before) :
    Calls Try.prog 11 args W fun e W' => ∃ v, e = .returned v ∧ Rows.crushOutSpec.post enc Try.prog Try.f11 false true false false W args v W' := by
  have hW' := hW
  obtain ⟨p, q, hA0, hV, rfl, hfz, hnd⟩ := hW
  have hA : DataW.TrodAll enc Try.prog W 0 (fun _ => true) true Try.f11.params.toList args.toList ds p := hA0
  rw [Try.params11] at hA hval
  obtain ⟨v0, vs0, d0, ds0, p0, q0, hargs, rfl, rfl, h0, r0⟩ := trodAll_cons hA
  obtain ⟨v1, vs1, d1, ds1, p1, q1, rfl, rfl, rfl, h1, r1⟩ := trodAll_cons r0
  obtain ⟨v2, vs2, d2, ds2, p2, q2, rfl, rfl, rfl, h2, r2⟩ := trodAll_cons r1
  obtain ⟨rfl, rfl, rfl⟩ := trodAll_nil r2
  obtain rfl : args = #[v0, v1, v2] := by cases args; simp_all
  obtain ⟨rfl, rfl⟩ := trodVars_none hV
  obtain ⟨ya, Y, yc, rfl, ry, hY⟩ := row_bytes Try.underlying93 Try.underlying5 (by kernel_rfl) (hval 0 93 _ rfl rfl) h0
  obtain ⟨l, rfl, hl, hw⟩ := agg_ints (k := .u8) (f := 5) (t := 94) (by kernel_rfl) (by rw [show Try.prog.cellsOf 94 = 3 from by kernel_rfl]; decide) h1
  obtain ⟨so, rfl, hso⟩ := u16_open (hval 2 91 _ rfl rfl) h2
  obtain ⟨m0, m1, m2, rfl⟩ : ∃ m0 m1 m2, l = [m0, m1, m2] := by
    have hl3 : l.length = 3 := hl.trans (by kernel_rfl)
    match l, hl3 with
    | [m0, m1, m2], _ => exact ⟨m0, m1, m2, rfl⟩
  clear hA0
  refine (crushOut_any Y m0 m1 m2 so hY (bounds_u8 (hw m0 (by simp))) (bounds_u8 (hw m1 (by simp))) (bounds_u8 (hw m2 (by simp))) hso ya yc W ry).mono fun e W' ⟨he, hg⟩ => ?_
  subst he
  exact ⟨_, rfl, law_true laidAll ou_params Try.underlying4 (by kernel_rfl) rfl rfl hW' hg⟩

set_option maxRecDepth 100000 in
theorem ou_lifted (os : Os) (started : os.Started) (H : Type) (enc : TypeId × Value → H) :
    ReturnsInHanded {} Try.checked os 11 .any (Rows.crushOutSpec.pre6 enc Try.prog Try.f11 Rows.crushOutRow.domain false) (Rows.crushOutSpec.post enc Try.prog Try.f11 false true false false) := by
  refine returnsInHanded_of_change (C := Try.checked) noGodebug started (by kernel_rfl) Try.func11
    (ChangeSpec.witness6 (enc := enc) (C := Try.checked) false ⟨#[], #[.slice none 0 0, .agg (Array.replicate 3 (.int .u8 0)), .int .u16 0], []⟩ 8 (by kernel_rfl) (by kernel_rfl) (by kernel_rfl) (by kernel_rfl)) ?_
  intro W base args ds gs before hval hW _ _
  exact ou_contract H enc W base args ds gs before hval hW

theorem crushOut_holds : Rows.CrushOutSaid :=
  OpenClaim.holds_of_wide 11 Try.f11 rfl rfl rfl rfl rfl rfl rfl ⟨rfl, rfl, rfl, rfl, rfl⟩ rfl rfl rfl rfl rfl (by kernel_rfl) Try.func11 (by kernel_rfl)
    (of_decide_eq_true (by kernel_rfl)) (by unfold Func.isWrapper; first | (rw [if_pos (by decide +kernel)]; kernel_rfl) | (rw [if_neg (by decide +kernel)]; exact ⟨rfl, rfl⟩))
    (fun os started H enc _ => ou_lifted os started H enc)
#print axioms crushOut_holds

end Go.Proofs.Ytkfhmfidgdpeiaa
