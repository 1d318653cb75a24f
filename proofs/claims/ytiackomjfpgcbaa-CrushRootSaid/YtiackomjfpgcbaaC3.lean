/- CrushRoot returns true for every input, and each argument reads afterwards as it read before. No condition. -/
import Derived.Test.YtiackomjfpgcbaaRows
import Derived.Test.YtiackomjfpgcbaaG2
import Derived.Test.YtiackomjfpgcbaaC2
import Derived.WalkKit
import Derived.ProofKit
import Derived.OpenShut
namespace Go.Proofs.Ytiackomjfpgcbaa
set_option linter.unusedVariables false
set_option linter.unusedSimpArgs false
open Go.ChangeShapes Go.WideShapes Go.ChangeAt Go.RowKit

theorem noGodebug : ownKnob Try.prog.godebug = none := by kernel_rfl

theorem laidAll : laidOutB Try.prog = true := by kernel_rfl

theorem cr_params : ∀ t ∈ Try.f12.params.toList, Try.prog.readableRec t = true ∧ t < Try.prog.types.size := by
  rw [Try.params12]
  intro t ht
  simp only [List.mem_cons, List.not_mem_nil, or_false] at ht
  rcases ht with rfl | rfl
  · exact ⟨by kernel_rfl, of_decide_eq_true (by kernel_rfl)⟩
  · exact ⟨by kernel_rfl, of_decide_eq_true (by kernel_rfl)⟩

theorem wf_u16 {n : Int} (h : (Lit.int .u16 n).wf = true) : 0 ≤ n ∧ n ≤ 65535 := by
  simp [Lit.wf, IntKind.wrap, IntKind.bits, IntKind.signed] at h
  have h1 : IntKind.u16.min = 0 := by decide
  have h2 : IntKind.u16.max = 65535 := by decide
  omega

set_option maxRecDepth 100000 in
theorem cr_contract (H : Type) (enc : TypeId × Value → H) (W : World) (base : Nat) (args : Array Value) (ds gs : List (DataW H)) (before : List MemPlace)
    (hval : ∀ (j : Nat) t v, Try.f12.params[j]? = some t → args[j]? = some v → Value.okWide Try.prog W .any base t v)
    (hW : DataW.Whole enc Try.prog Try.f12.params.toList Rows.crushRootSpec.vars false W args.toList ds gs before) :
    Calls Try.prog 12 args W fun e W' => ∃ v, e = .returned v ∧ Rows.crushRootSpec.post enc Try.prog Try.f12 false true false false W args v W' := by
  have hW' := hW
  obtain ⟨p, q, hA0, hV, rfl, hfz, hnd⟩ := hW
  have hA : DataW.TrodAll enc Try.prog W 0 (fun _ => true) true Try.f12.params.toList args.toList ds p := hA0
  rw [Try.params12] at hA hval
  obtain ⟨v0, vs0, d0, ds0, p0, q0, hargs, rfl, rfl, h0, r0⟩ := trodAll_cons hA
  obtain ⟨v1, vs1, d1, ds1, p1, q1, rfl, rfl, rfl, h1, r1⟩ := trodAll_cons r0
  obtain ⟨rfl, rfl, rfl⟩ := trodAll_nil r1
  obtain rfl : args = #[v0, v1] := by cases args; simp_all
  obtain ⟨rfl, rfl⟩ := trodVars_none hV
  obtain ⟨l, rfl, hl, hw⟩ := agg_ints (k := .u16) (f := 5) (t := 99) (by kernel_rfl) (by rw [show Try.prog.cellsOf 99 = 6 from by kernel_rfl]; decide) h0
  obtain ⟨m, rfl, hm, hu⟩ := agg_ints (k := .u8) (f := 5) (t := 100) (by kernel_rfl) (by rw [show Try.prog.cellsOf 100 = 2 from by kernel_rfl]; decide) h1
  obtain ⟨a0, a1, a2, a3, a4, a5, rfl⟩ : ∃ a0 a1 a2 a3 a4 a5, l = [a0, a1, a2, a3, a4, a5] := by
    have hl6 : l.length = 6 := hl.trans (by kernel_rfl)
    match l, hl6 with
    | [a0, a1, a2, a3, a4, a5], _ => exact ⟨a0, a1, a2, a3, a4, a5, rfl⟩
  obtain ⟨y0, y1, rfl⟩ : ∃ y0 y1, m = [y0, y1] := by
    have hm2 : m.length = 2 := hm.trans (by kernel_rfl)
    match m, hm2 with
    | [y0, y1], _ => exact ⟨y0, y1, rfl⟩
  clear hA0
  refine (crushRoot_any a0 a1 a2 a3 a4 a5 y0 y1 (wf_u16 (hw a0 (by simp))) (wf_u16 (hw a1 (by simp))) (wf_u16 (hw a2 (by simp))) (wf_u16 (hw a3 (by simp))) (wf_u16 (hw a4 (by simp))) (wf_u16 (hw a5 (by simp))) (bounds_u8 (hu y0 (by simp))) (bounds_u8 (hu y1 (by simp))) W).mono fun e W' ⟨he, hg⟩ => ?_
  subst he
  exact ⟨_, rfl, law_true laidAll cr_params Try.underlying4 (by kernel_rfl) rfl rfl hW' hg⟩

set_option maxRecDepth 100000 in
theorem cr_lifted (os : Os) (started : os.Started) (H : Type) (enc : TypeId × Value → H) :
    ReturnsInHanded {} Try.checked os 12 .any (Rows.crushRootSpec.pre6 enc Try.prog Try.f12 Rows.crushRootRow.domain false) (Rows.crushRootSpec.post enc Try.prog Try.f12 false true false false) := by
  refine returnsInHanded_of_change (C := Try.checked) noGodebug started (by kernel_rfl) Try.func12
    (ChangeSpec.witness6 (enc := enc) (C := Try.checked) false ⟨#[], #[.agg (Array.replicate 6 (.int .u16 0)), .agg (Array.replicate 2 (.int .u8 0))], []⟩ 8 (by kernel_rfl) (by kernel_rfl) (by kernel_rfl) (by kernel_rfl)) ?_
  intro W base args ds gs before hval hW _ _
  exact cr_contract H enc W base args ds gs before hval hW

theorem crushRoot_holds : Rows.CrushRootSaid :=
  OpenClaim.holds_of_wide 12 Try.f12 rfl rfl rfl rfl rfl rfl rfl ⟨rfl, rfl, rfl, rfl, rfl⟩ rfl rfl rfl rfl rfl (by kernel_rfl) Try.func12 (by kernel_rfl)
    (of_decide_eq_true (by kernel_rfl)) (by unfold Func.isWrapper; first | (rw [if_pos (by decide +kernel)]; kernel_rfl) | (rw [if_neg (by decide +kernel)]; exact ⟨rfl, rfl⟩))
    (fun os started H enc _ => cr_lifted os started H enc)
#print axioms crushRoot_holds

end Go.Proofs.Ytiackomjfpgcbaa
