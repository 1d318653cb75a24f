/- CrushFew returns true for every input, and each argument reads afterwards as it read before. No condition. -/
import Derived.Test.YtkfhmfidgdpeiaaRows
import Derived.Test.YtkfhmfidgdpeiaaD10
import Derived.Test.YtkfhmfidgdpeiaaD7
import Derived.WalkKit
import Derived.ProofKit
import Derived.OpenShut
namespace Go.Proofs.Ytkfhmfidgdpeiaa
set_option linter.unusedVariables false
set_option linter.unusedSimpArgs false
open Go.ChangeShapes Go.WideShapes Go.ChangeAt Go.RowKit

theorem noGodebug : ownKnob Try.prog.godebug = none := by kernel_rfl

theorem laidAll : laidOutB Try.prog = true := by kernel_rfl

theorem wf16 {n : Int} (h : (Lit.int .u16 n).wf = true) : 0 ≤ n ∧ n ≤ 65535 := by
  simp [Lit.wf, IntKind.wrap, IntKind.bits, IntKind.signed] at h
  have h1 : IntKind.u16.min = 0 := by decide
  have h2 : IntKind.u16.max = 65535 := by decide
  omega

set_option maxRecDepth 100000 in
theorem byte_open {H : Type} {enc : TypeId × Value → H} {W : World} {v : Value} {d : DataW H} {ps : List MemPlace} {r : Reach} {b0 : Nat} (hval : Value.okWide Try.prog W r b0 5 v) (h : DataW.Trod enc Try.prog W 0 (fun _ => true) true 5 v d ps) : ∃ n, v = .int .u8 n ∧ 0 ≤ n ∧ n ≤ 255 := by
  obtain ⟨n, rfl⟩ := okWide_int Try.underlying5 hval
  obtain ⟨fuel, hf⟩ := h
  obtain ⟨n', e, hw⟩ := int_open Try.underlying5 hf
  have e' : [Value.int .u8 n] = [.int .u8 n'] := e
  injection e' with e1 _
  injection e1 with _ e2
  subst e2
  exact ⟨n, rfl, bounds_u8 hw⟩

theorem mkH (l : List Int) (hl : l.length = 1) (hw : ∀ n ∈ l, (Lit.int .u16 n).wf = true) : ∃ y : Int, encH y = l.map (Value.int .u16) ∧ (0 ≤ y ∧ y ≤ 65535) := by
  match l, hl with
  | [a], _ => exact ⟨a, rfl, wf16 (hw a (by simp))⟩

set_option maxRecDepth 100000 in
theorem row_u16 {t : TypeId} {W : World} {H : Type} {enc : TypeId × Value → H} {r : Reach} {b0 : Nat} (ht : Try.prog.underlying t = some (.slice 91)) {v : Value} {d : DataW H} {ps : List MemPlace} (hval : Value.okWide Try.prog W r b0 t v)
    (h : DataW.Trod enc Try.prog W 0 (fun _ => true) true t v d ps) : ∃ (a : Option Addr) (l : List Int) (cap : Nat), v = .slice a l.length cap ∧ HRow W a l ∧ ∀ x ∈ l, 0 ≤ x ∧ x ≤ 65535 := by
  obtain ⟨fuel, hf⟩ := h
  obtain ⟨a0, len0, cap0, rfl⟩ := Go.WideShapes.okWide_slice ht hval
  obtain ⟨a, l, cap, e, rl, hl⟩ := row_flat (f := 5) (en := encH) (G := fun n => 0 ≤ n ∧ n ≤ 65535) ht (k := .u16) (by kernel_rfl) (by kernel_rfl) (by decide) mkH hf
  have e' : [Value.slice a0 len0 cap0] = [.slice a l.length cap] := e
  injection e' with e1 _
  exact ⟨a, l, cap, e1, rl, hl⟩

theorem fw_params : ∀ t ∈ Try.f10.params.toList, Try.prog.readableRec t = true ∧ t < Try.prog.types.size := by
  rw [Try.params10]
  intro t ht
  simp only [List.mem_cons, List.not_mem_nil, or_false] at ht
  rcases ht with rfl | rfl | rfl
  · exact ⟨by kernel_rfl, of_decide_eq_true (by kernel_rfl)⟩
  · exact ⟨by kernel_rfl, of_decide_eq_true (by kernel_rfl)⟩
  · exact ⟨by kernel_rfl, of_decide_eq_true (by kernel_rfl)⟩

set_option maxRecDepth 100000 in
theorem fw_contract (H : Type) (enc : TypeId × Value → H) (W : World) (base : Nat) (args : Array Value) (ds gs : List (DataW H)) (before : List MemPlace)
    (hval : ∀ (j : Nat) t v, Try.f10.params[j]? = some t → args[j]? = some v → Value.okWide Try.prog W .any base t v)
    (hW : DataW.Whole enc Try.prog Try.f10.params.toList Rows.crushFewSpec.vars false W args.toList ds gs before) :
    Calls Try.prog 10 args W fun e W' => ∃ v, e = .returned v ∧ Rows.crushFewSpec.post enc Try.prog Try.f10 false true false false W args v W' := by
  have hW' := hW
  obtain ⟨p, q, hA0, hV, rfl, hfz, hnd⟩ := hW
  have hA : DataW.TrodAll enc Try.prog W 0 (fun _ => true) true Try.f10.params.toList args.toList ds p := hA0
  rw [Try.params10] at hA hval
  obtain ⟨v0, vs0, d0, ds0, p0, q0, hargs, rfl, rfl, h0, r0⟩ := trodAll_cons hA
  obtain ⟨v1, vs1, d1, ds1, p1, q1, rfl, rfl, rfl, h1, r1⟩ := trodAll_cons r0
  obtain ⟨v2, vs2, d2, ds2, p2, q2, rfl, rfl, rfl, h2, r2⟩ := trodAll_cons r1
  obtain ⟨rfl, rfl, rfl⟩ := trodAll_nil r2
  obtain rfl : args = #[v0, v1, v2] := by cases args; simp_all
  obtain ⟨rfl, rfl⟩ := trodVars_none hV
  obtain ⟨c, rfl, _⟩ := okWide_struct Try.underlying83 (hval 0 83 _ rfl rfl)
  obtain ⟨fuel, hx⟩ := h0
  obtain ⟨x0, x1, x2, x3, of, T, ta, tc, hc, b0, b1, b2, b3, b4, rT, hT⟩ := lot_open hx
  obtain rfl : c = #[.int .u8 x0, .int .u8 x1, .int .u8 x2, .int .u8 x3, .int .u8 of, .slice ta T.length tc] := by
    cases c with
    | mk c =>
      simp only [Value.cells] at hc
      subst hc
      rfl
  obtain ⟨made, rfl, b5⟩ := byte_open (hval 1 5 _ rfl rfl) h1
  obtain ⟨qa, Q, qc, rfl, rQ, hQ⟩ := row_u16 Try.underlying88 (hval 2 88 _ rfl rfl) h2
  clear hA0 hx hc
  refine (crushFew_any x0 x1 x2 x3 of made T Q hT hQ b0 b1 b2 b3 b4 b5 ta tc qa qc W rT rQ).mono fun e W' ⟨he, hg⟩ => ?_
  subst he
  exact ⟨_, rfl, law_true laidAll fw_params Try.underlying4 (by kernel_rfl) rfl rfl hW' hg⟩

set_option maxRecDepth 100000 in
theorem fw_lifted (os : Os) (started : os.Started) (H : Type) (enc : TypeId × Value → H) :
    ReturnsInHanded {} Try.checked os 10 .any (Rows.crushFewSpec.pre6 enc Try.prog Try.f10 Rows.crushFewRow.domain false) (Rows.crushFewSpec.post enc Try.prog Try.f10 false true false false) := by
  refine returnsInHanded_of_change (C := Try.checked) noGodebug started (by kernel_rfl) Try.func10
    (ChangeSpec.witness6 (enc := enc) (C := Try.checked) false ⟨#[], #[.agg #[.int .u8 0, .int .u8 0, .int .u8 0, .int .u8 0, .int .u8 0, .slice none 0 0], .int .u8 0, .slice none 0 0], []⟩ 8 (by kernel_rfl) (by kernel_rfl) (by kernel_rfl) (by kernel_rfl)) ?_
  intro W base args ds gs before hval hW _ _
  exact fw_contract H enc W base args ds gs before hval hW

theorem crushFew_holds : Rows.CrushFewSaid :=
  OpenClaim.holds_of_wide 10 Try.f10 rfl rfl rfl rfl rfl rfl rfl ⟨rfl, rfl, rfl, rfl, rfl⟩ rfl rfl rfl rfl rfl (by kernel_rfl) Try.func10 (by kernel_rfl)
    (of_decide_eq_true (by kernel_rfl)) (by unfold Func.isWrapper; first | (rw [if_pos (by decide +kernel)]; kernel_rfl) | (rw [if_neg (by decide +kernel)]; exact ⟨rfl, rfl⟩))
    (fun os started H enc _ => fw_lifted os started H enc)
#print axioms crushFew_holds

end Go.Proofs.Ytkfhmfidgdpeiaa
