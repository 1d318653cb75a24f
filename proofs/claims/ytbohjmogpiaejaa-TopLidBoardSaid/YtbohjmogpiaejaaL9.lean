/- TopLidBoard returns true for every input, and each argument reads afterwards as it read before. No condition. -/
import Derived.Test.YtbohjmogpiaejaaRows
import Derived.Test.YtbohjmogpiaejaaG2
import Derived.Test.YtbohjmogpiaejaaL3
import Derived.Test.YtbohjmogpiaejaaV9
import Derived.Test.YtbohjmogpiaejaaW1
import Derived.WalkKit
import Derived.ProofKit
import Derived.OpenShut
namespace Go.Proofs.Ytbohjmogpiaejaa
set_option linter.unusedVariables false
set_option linter.unusedSimpArgs false
open Go.ChangeShapes Go.WideShapes Go.ChangeAt Go.RowKit

theorem noGodebug : ownKnob Try.prog.godebug = none := by kernel_rfl
theorem laidAll : laidOutB Try.prog = true := by kernel_rfl

theorem list25 : ∀ (l : List Int), l.length = 25 → ∃ x0 x1 x2 x3 x4 x5 x6 x7 x8 x9 x10 x11 x12 x13 x14 x15 x16 x17 x18 x19 x20 x21 x22 x23 x24 : Int, l = [x0, x1, x2, x3, x4, x5, x6, x7, x8, x9, x10, x11, x12, x13, x14, x15, x16, x17, x18, x19, x20, x21, x22, x23, x24]
  | [x0, x1, x2, x3, x4, x5, x6, x7, x8, x9, x10, x11, x12, x13, x14, x15, x16, x17, x18, x19, x20, x21, x22, x23, x24], _ => ⟨x0, x1, x2, x3, x4, x5, x6, x7, x8, x9, x10, x11, x12, x13, x14, x15, x16, x17, x18, x19, x20, x21, x22, x23, x24, rfl⟩

/-- The walk for whatever 25 bytes, told as a list. -/
theorem lid_walk (l truth : List Int) (mo : Int) (hl : l.length = 25) (hb : ∀ n ∈ l, (Lit.int .u8 n).wf = true) (hm : (Lit.int .u8 mo).wf = true) (hT : Bytes truth) (td : Option Addr) (tcap : Nat) (w : World) (ht : URow w td truth) :
    Calls Try.prog 4 #[.agg (l.map (Value.int .u8)).toArray, .int .u8 mo, .slice td truth.length tcap] w fun e w' => e = .returned (.bool true) ∧ Gr w w' := by
  obtain ⟨x0, x1, x2, x3, x4, x5, x6, x7, x8, x9, x10, x11, x12, x13, x14, x15, x16, x17, x18, x19, x20, x21, x22, x23, x24, rfl⟩ := list25 l hl
  have hB : ∀ n ∈ [x0, x1, x2, x3, x4, x5, x6, x7, x8, x9, x10, x11, x12, x13, x14, x15, x16, x17, x18, x19, x20, x21, x22, x23, x24], Byt n := fun n hn => bounds_u8 (hb n hn)
  have h0 : ∀ n ∈ [x0, x1, x2, x3, x4, x5, x6, x7, x8, x9, x10, x11, x12, x13, x14, x15, x16, x17], Byt n := fun n hn => hB n (List.mem_append_left [x18, x19, x20, x21, x22, x23, x24] hn)
  have h1 : ∀ n ∈ [x18, x19, x20, x21, x22, x23, x24], Byt n := fun n hn => hB n (List.mem_append_right [x0, x1, x2, x3, x4, x5, x6, x7, x8, x9, x10, x11, x12, x13, x14, x15, x16, x17] hn)
  have hmo : Byt mo := bounds_u8 hm
  have e : mo.tmod 40 = mo % 40 := Int.tmod_eq_emod_of_nonneg hmo.1
  have m0 : 0 ≤ mo % 40 := Int.emod_nonneg _ (by omega)
  have m1 : mo % 40 ≤ 39 := by have := Int.emod_lt_of_pos mo (show (0 : Int) < 40 by omega); omega
  exact lid_any x0 x1 x2 x3 x4 x5 x6 x7 x8 x9 x10 x11 x12 x13 x14 x15 x16 x17 x18 x19 x20 x21 x22 x23 x24 mo (mo % 40) truth h0 h1 hT hmo e m0 m1 (Lib.hid (store_made h0)) (Lib.hid (double_made h0)) (Lib.hid (box_good_m (h1 x18 (by simp)) (h1 x19 (by simp)) (h1 x20 (by simp)) (h1 x21 (by simp)) (h1 x22 (by simp)) (h1 x23 (by simp)) (h1 x24 (by simp)) m0 m1)) (Lib.hid (box_good (h1 x18 (by simp)) (h1 x19 (by simp)) (h1 x20 (by simp)) (h1 x21 (by simp)) (h1 x22 (by simp)) (h1 x23 (by simp)) (h1 x24 (by simp)))) (Lib.hid (single_ok h0)) (Lib.hid (double_ok h0)) td tcap w ht

theorem lid_params : ∀ t ∈ Try.f4.params.toList, Try.prog.readableRec t = true ∧ t < Try.prog.types.size := by
  rw [Try.params4]
  intro t ht
  simp only [List.mem_cons, List.not_mem_nil, or_false] at ht
  rcases ht with rfl | rfl | rfl
  · exact ⟨by kernel_rfl, of_decide_eq_true (by kernel_rfl)⟩
  · exact ⟨by kernel_rfl, of_decide_eq_true (by kernel_rfl)⟩
  · exact ⟨by kernel_rfl, of_decide_eq_true (by kernel_rfl)⟩

set_option maxRecDepth 100000 in
theorem lid_contract (H : Type) (enc : TypeId × Value → H) (W : World) (base : Nat) (args : Array Value) (ds gs : List (DataW H)) (before : List MemPlace)
    (hval : ∀ (j : Nat) t v, Try.f4.params[j]? = some t → args[j]? = some v → Value.okWide Try.prog W .any base t v)
    (hW : DataW.Whole enc Try.prog Try.f4.params.toList Rows.topLidBoardSpec.vars false W args.toList ds gs before) :
    Calls Try.prog 4 args W fun e W' => ∃ v, e = .returned v ∧ Rows.topLidBoardSpec.post enc Try.prog Try.f4 false true false false W args v W' := by
  have hW' := hW
  obtain ⟨p, q, hA0, hV, rfl, hfz, hnd⟩ := hW
  have hA : DataW.TrodAll enc Try.prog W 0 (fun _ => true) true Try.f4.params.toList args.toList ds p := hA0
  rw [Try.params4] at hA hval
  obtain ⟨v0, vs0, d0, ds0, p0, q0, hargs, rfl, rfl, h0, r0⟩ := trodAll_cons hA
  obtain ⟨v1, vs1, d1, ds1, p1, q1, rfl, rfl, rfl, h1, r1⟩ := trodAll_cons r0
  obtain ⟨v2, vs2, d2, ds2, p2, q2, rfl, rfl, rfl, h2, r2⟩ := trodAll_cons r1
  obtain ⟨rfl, rfl, rfl⟩ := trodAll_nil r2
  obtain rfl : args = #[v0, v1, v2] := by cases args; simp_all
  obtain ⟨rfl, rfl⟩ := trodVars_none hV
  obtain ⟨l, rfl, hl, hw⟩ := agg_ints (k := .u8) (f := 5) (t := 28) (by kernel_rfl) (by rw [show Try.prog.cellsOf 28 = 25 from by kernel_rfl]; decide) h0
  obtain ⟨mo, rfl, rfl, rfl, hwm⟩ := open_int Try.underlying5 (hval 1 5 _ rfl rfl) h1
  obtain ⟨a, tr, cap, rfl, hu, hT⟩ := row_bytes Try.underlying29 Try.underlying5 (by kernel_rfl) (hval 2 29 _ rfl rfl) h2
  clear hA0
  refine (lid_walk l tr mo (hl.trans (by kernel_rfl)) hw hwm hT a cap W hu).mono fun e W' ⟨he, hg⟩ => ?_
  subst he
  exact ⟨_, rfl, law_true laidAll lid_params Try.underlying4 (by kernel_rfl) rfl rfl hW' hg⟩

set_option maxRecDepth 100000 in
theorem lid_lifted (os : Os) (started : os.Started) (H : Type) (enc : TypeId × Value → H) :
    ReturnsInHanded {} Try.checked os 4 .any (Rows.topLidBoardSpec.pre6 enc Try.prog Try.f4 Rows.topLidBoardRow.domain false) (Rows.topLidBoardSpec.post enc Try.prog Try.f4 false true false false) := by
  refine returnsInHanded_of_change (C := Try.checked) noGodebug started (by kernel_rfl) Try.func4
    (ChangeSpec.witness6 (enc := enc) (C := Try.checked) false ⟨#[], #[.agg (Array.replicate 25 (.int .u8 0)), .int .u8 0, .slice none 0 0], []⟩ 8 (by kernel_rfl) (by kernel_rfl) (by kernel_rfl) (by kernel_rfl)) ?_
  intro W base args ds gs before hval hW _ _
  exact lid_contract H enc W base args ds gs before hval hW

theorem topLidBoard_holds : Rows.TopLidBoardSaid :=
  OpenClaim.holds_of_wide 4 Try.f4 rfl rfl rfl rfl rfl rfl rfl ⟨rfl, rfl, rfl, rfl, rfl⟩ rfl rfl rfl rfl rfl (by kernel_rfl) Try.func4 (by kernel_rfl)
    (of_decide_eq_true (by kernel_rfl)) (by unfold Func.isWrapper; first | (rw [if_pos (by decide +kernel)]; kernel_rfl) | (rw [if_neg (by decide +kernel)]; exact ⟨rfl, rfl⟩))
    (fun os started H enc _ => lid_lifted os started H enc)
#print axioms topLidBoard_holds
end Go.Proofs.Ytbohjmogpiaejaa
