/- TopHeaviest returns true for every input, and each argument reads afterwards as it read before. No condition. -/
import Derived.Test.YtcdilmagcdbogaaRows
import Derived.Test.YtcdilmagcdbogaaQE21f
import Derived.Test.YtcdilmagcdbogaaQE21e
import Derived.SizedLaws
import Derived.WalkKit
import Derived.ProofKit
import Derived.OpenShut
namespace Go.Proofs.Ytcdilmagcdbogaa
set_option linter.unusedVariables false
set_option linter.unusedSimpArgs false
open Go.ChangeShapes Go.WideShapes Go.ChangeAt Go.RowKit

theorem noGodebug : ownKnob Try.prog.godebug = none := by kernel_rfl

theorem laidAll : laidOutB Try.prog = true := by kernel_rfl

set_option maxRecDepth 100000 in
theorem byte_open {H : Type} {enc : TypeId × Value → H} {W : World} {v : Value} {d : DataW H} {ps : List MemPlace} {r : Reach} {b0 : Nat} (hval : Value.okWide Try.prog W r b0 5 v) (h : DataW.Trod enc Try.prog W 0 (fun _ => true) true 5 v d ps) : ∃ n, v = .int .u8 n ∧ 0 ≤ n ∧ n ≤ 255 := by
  obtain ⟨n, rfl⟩ := okWide_int Try.underlying5 hval
  obtain ⟨fuel, hf⟩ := h
  obtain ⟨n', e, hw⟩ := int_open Try.underlying5 hf
  have e' : [Value.int .u8 n] = [.int .u8 n'] := e
  injection e' with e1 _
  injection e1 with _ e2
  subst e2
  exact ⟨n, rfl, bounds_u8 hw⟩

theorem hv_params : ∀ t ∈ Try.f17.params.toList, Try.prog.readableRec t = true ∧ t < Try.prog.types.size := by
  rw [Try.params17]
  intro t ht
  simp only [List.mem_cons, List.not_mem_nil, or_false] at ht
  rcases ht with rfl | rfl | rfl
  · exact ⟨by kernel_rfl, of_decide_eq_true (by kernel_rfl)⟩
  · exact ⟨by kernel_rfl, of_decide_eq_true (by kernel_rfl)⟩
  · exact ⟨by kernel_rfl, of_decide_eq_true (by kernel_rfl)⟩

set_option maxRecDepth 100000 in
theorem hv_contract (H : Type) (enc : TypeId × Value → H) (W : World) (base : Nat) (args : Array Value) (ds gs : List (DataW H)) (before : List MemPlace)
    (hval : ∀ (j : Nat) t v, Try.f17.params[j]? = some t → args[j]? = some v → Value.okWide Try.prog W .any base t v)
    (hW : DataW.Whole enc Try.prog Try.f17.params.toList Rows.topHeaviestSpec.vars false W args.toList ds gs before)
    (hsz : (DataW.weightsEach Try.prog (Try.f17.params.toList ++ Rows.topHeaviestSpec.plain.varTypes Try.prog) (ds ++ gs)).all (· ≤ reachBytes) = true) :
    Calls Try.prog 17 args W fun e W' => ∃ v, e = .returned v ∧ Rows.topHeaviestSpec.post enc Try.prog Try.f17 false true false false W args v W' := by
  have hW' := hW
  obtain ⟨p, q, hA0, hV, rfl, hfz, hnd⟩ := hW
  have hA : DataW.TrodAll enc Try.prog W 0 (fun _ => true) true Try.f17.params.toList args.toList ds p := hA0
  rw [Try.params17] at hA hval
  obtain ⟨v0, vs0, d0, ds0, p0, q0, hargs, rfl, rfl, h0, r0⟩ := trodAll_cons hA
  obtain ⟨v1, vs1, d1, ds1, p1, q1, rfl, rfl, rfl, h1, r1⟩ := trodAll_cons r0
  obtain ⟨v2, vs2, d2, ds2, p2, q2, rfl, rfl, rfl, h2, r2⟩ := trodAll_cons r1
  obtain ⟨rfl, rfl, rfl⟩ := trodAll_nil r2
  obtain rfl : args = #[v0, v1, v2] := by cases args; simp_all
  obtain ⟨rfl, rfl⟩ := trodVars_none hV
  obtain ⟨c, rfl, _⟩ := okWide_struct Try.underlying120 (hval 0 120 _ rfl rfl)
  obtain ⟨fuel, hx⟩ := h0
  obtain ⟨s0, s1, s2, n, x0, x1, x2, hc, t0, t1, t2⟩ := struct3 (t0 := 117) (t1 := 118) (t2 := 93) Try.underlying120 (by kernel_rfl) (by kernel_rfl) (by kernel_rfl) (by kernel_rfl)
    ⟨_, List.mem_cons_self, rfl, rfl⟩ ⟨_, List.mem_cons_of_mem _ List.mem_cons_self, rfl, rfl⟩ ⟨_, List.mem_cons_of_mem _ (List.mem_cons_of_mem _ List.mem_cons_self), rfl, rfl⟩ hx
  obtain ⟨pa, P, pc, e0, rP, hP⟩ := row_flat (f := 5) (en := encV6) (G := B6) Try.underlying117 (k := .u8) (by kernel_rfl) (by kernel_rfl) (by decide) mk6 t0
  obtain ⟨fa, F, fc, e1, rF, hF⟩ := row_flat (f := 5) (en := encV3) (G := B3) Try.underlying118 (k := .u8) (by kernel_rfl) (by kernel_rfl) (by decide) mk3 t1
  obtain ⟨ya, Y, yc, e2, rY, hY⟩ := row_flat (f := 5) (en := encU) (G := fun n => 0 ≤ n ∧ n ≤ 255) Try.underlying93 (k := .u8) (by kernel_rfl) (by kernel_rfl) (by decide) mk1 t2
  obtain rfl : c = #[.slice pa P.length pc, .slice fa F.length fc, .slice ya Y.length yc] := by
    cases c with
    | mk c =>
      simp only [Value.cells] at hc
      subst hc
      cases e0; cases e1; cases e2
      rfl
  have hYb : Y.length ≤ 140737488351232 := ware_len (s0 := .slice pa P.length pc) (s1 := .slice fa F.length fc) (a := ya) (len := Y.length) (cap := yc) hx (fun n hn => of_decide_eq_true (List.all_eq_true.1 hsz n (DataW.weights_mem_each (j := 0) (t := 120) (d := d0) (by rw [Try.params17]; rfl) rfl n hn)))
  clear hx hc
  obtain ⟨mx, rfl, hml, hmw⟩ := agg_ints (k := .u8) (f := 5) (t := 136) (by kernel_rfl) (by rw [show Try.prog.cellsOf 136 = 6 from by kernel_rfl]; decide) h1
  obtain ⟨n0, n1, n2, n3, n4, n5, rfl⟩ : ∃ n0 n1 n2 n3 n4 n5, mx = [n0, n1, n2, n3, n4, n5] := by
    have hl6 : mx.length = 6 := hml.trans (by kernel_rfl)
    match mx, hl6 with
    | [n0, n1, n2, n3, n4, n5], _ => exact ⟨n0, n1, n2, n3, n4, n5, rfl⟩
  have hM : ∀ m ∈ [n0, n1, n2, n3, n4, n5], 0 ≤ m ∧ m ≤ 255 := fun m hm => bounds_u8 (hmw m hm)
  obtain ⟨dd, rfl, dd0, dd1⟩ := byte_open (hval 2 5 _ rfl rfl) h2
  clear hA0
  refine (heaviest_any P F Y n0 n1 n2 n3 n4 n5 dd hP hF hY hM hYb dd0 dd1 pa fa ya pc fc yc W rP rF rY).mono fun e W' ⟨he, hg⟩ => ?_
  subst he
  exact ⟨_, rfl, law_true laidAll hv_params Try.underlying4 (by kernel_rfl) rfl rfl hW' hg⟩

set_option maxRecDepth 100000 in
theorem hv_lifted (os : Os) (started : os.Started) (H : Type) (enc : TypeId × Value → H) :
    ReturnsInHanded {} Try.checked os 17 .any (Rows.topHeaviestSpec.pre6 enc Try.prog Try.f17 Rows.topHeaviestRow.domain false) (Rows.topHeaviestSpec.post enc Try.prog Try.f17 false true false false) := by
  refine returnsInHanded_of_change_sized (C := Try.checked) noGodebug started (by kernel_rfl) Try.func17
    (ChangeSpec.witness6 (enc := enc) (C := Try.checked) false ⟨#[], #[.agg #[.slice none 0 0, .slice none 0 0, .slice none 0 0], .agg #[.int .u8 0, .int .u8 0, .int .u8 0, .int .u8 0, .int .u8 0, .int .u8 0], .int .u8 0], []⟩ 8 (by kernel_rfl) (by kernel_rfl) (by kernel_rfl) (by kernel_rfl)) ?_
  intro W base args ds gs before hval hW _ hsz _
  exact hv_contract H enc W base args ds gs before hval hW hsz

theorem topHeaviest_holds : Rows.TopHeaviestSaid :=
  OpenClaim.holds_of_wide 17 Try.f17 rfl rfl rfl rfl rfl rfl rfl ⟨rfl, rfl, rfl, rfl, rfl⟩ rfl rfl rfl rfl rfl (by kernel_rfl) Try.func17 (by kernel_rfl)
    (of_decide_eq_true (by kernel_rfl)) (by unfold Func.isWrapper; first | (rw [if_pos (by decide +kernel)]; kernel_rfl) | (rw [if_neg (by decide +kernel)]; exact ⟨rfl, rfl⟩))
    (fun os started H enc _ => hv_lifted os started H enc)
#print axioms topHeaviest_holds

end Go.Proofs.Ytcdilmagcdbogaa
