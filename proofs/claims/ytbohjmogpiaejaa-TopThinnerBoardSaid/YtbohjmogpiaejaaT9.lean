/- TopThinnerBoard returns true for every input, and each argument reads afterwards as it read before. No condition. -/
import Derived.Test.YtbohjmogpiaejaaRows
import Derived.Test.YtbohjmogpiaejaaG2
import Derived.Test.YtbohjmogpiaejaaT2
import Derived.Test.YtbohjmogpiaejaaT1
import Derived.Test.YtbohjmogpiaejaaV9
import Derived.Test.YtbohjmogpiaejaaW1
import Derived.WalkKit
import Derived.ProofKit
import Derived.OpenShut
namespace Go.Proofs.Ytbohjmogpiaejaa
set_option linter.unusedVariables false
set_option linter.unusedSimpArgs false
open Go.ChangeShapes Go.WideShapes Go.ChangeAt Go.RowKit

theorem noGodebug : ownKnob Try.prog.godebug = none := by kernel_rfl
theorem laidAll : laidOutB Try.prog = true := by kernel_rfl

theorem list25 : ∀ (l : List Int), l.length = 25 → ∃ x0 x1 x2 x3 x4 x5 x6 x7 x8 x9 x10 x11 x12 x13 x14 x15 x16 x17 x18 x19 x20 x21 x22 x23 x24 : Int, l = [x0, x1, x2, x3, x4, x5, x6, x7, x8, x9, x10, x11, x12, x13, x14, x15, x16, x17, x18, x19, x20, x21, x22, x23, x24]
  | [x0, x1, x2, x3, x4, x5, x6, x7, x8, x9, x10, x11, x12, x13, x14, x15, x16, x17, x18, x19, x20, x21, x22, x23, x24], _ => ⟨x0, x1, x2, x3, x4, x5, x6, x7, x8, x9, x10, x11, x12, x13, x14, x15, x16, x17, x18, x19, x20, x21, x22, x23, x24, rfl⟩

theorem list3 : ∀ (l : List Int), l.length = 3 → ∃ y0 y1 y2 : Int, l = [y0, y1, y2]
  | [y0, y1, y2], _ => ⟨y0, y1, y2, rfl⟩

theorem good_moist {up : Bool} {p : Paper} (h : goodP p = true) : 0 ≤ moistOf up p := (moistOf_bd up p h).1

/-- The walk for whatever 25 bytes and 3 bytes, told as lists. -/
theorem thinner_walk (l t : List Int) (hl : l.length = 25) (ht : t.length = 3) (hb : ∀ n ∈ l, (Lit.int .u8 n).wf = true) (hc : ∀ n ∈ t, (Lit.int .u8 n).wf = true) (w : World) :
    Calls Try.prog 5 #[.agg (l.map (Value.int .u8)).toArray, .agg (t.map (Value.int .u8)).toArray] w fun e w' => e = .returned (.bool true) ∧ Gr w w' := by
  obtain ⟨x0, x1, x2, x3, x4, x5, x6, x7, x8, x9, x10, x11, x12, x13, x14, x15, x16, x17, x18, x19, x20, x21, x22, x23, x24, rfl⟩ := list25 l hl
  obtain ⟨y0, y1, y2, rfl⟩ := list3 t ht
  have hB : ∀ n ∈ [x0, x1, x2, x3, x4, x5, x6, x7, x8, x9, x10, x11, x12, x13, x14, x15, x16, x17, x18, x19, x20, x21, x22, x23, x24], Byt n := fun n hn => bounds_u8 (hb n hn)
  have h0 : ∀ n ∈ [x0, x1, x2, x3, x4, x5, x6, x7, x8, x9, x10, x11, x12, x13, x14, x15, x16, x17], Byt n := fun n hn => hB n (List.mem_append_left [x18, x19, x20, x21, x22, x23, x24] hn)
  have h1 : ∀ n ∈ [x18, x19, x20, x21, x22, x23, x24], Byt n := fun n hn => hB n (List.mem_append_right [x0, x1, x2, x3, x4, x5, x6, x7, x8, x9, x10, x11, x12, x13, x14, x15, x16, x17] hn)
  have hf := good_fflute (h0 x12 (by simp)) (h0 x13 (by simp)) (h0 x14 (by simp))
  have hg := good_fflute (h0 x15 (by simp)) (h0 x16 (by simp)) (h0 x17 (by simp))
  obtain ⟨p1, _, d1, _⟩ := goodF_iff hf
  obtain ⟨p2, _, d2, _⟩ := goodF_iff hg
  have hm : ∀ up, moistL up (storeP x0 x1 x2 x3 x4 x5 x6 x7 x8 x9 x10 x11) (storeF x12 x13 x14 x15 x16 x17) [0, 1, 2] [0] ≤ moistL up (storeP x0 x1 x2 x3 x4 x5 x6 x7 x8 x9 x10 x11) (storeF x12 x13 x14 x15 x16 x17) [0, 1, 2, 1, 0] [0, 1] := fun up =>
    moist_le up (good_moist (good_fpaper (h0 x0 (by simp)) (h0 x1 (by simp)) (h0 x2 (by simp)) (h0 x3 (by simp)))) (good_moist (good_fpaper (h0 x4 (by simp)) (h0 x5 (by simp)) (h0 x6 (by simp)) (h0 x7 (by simp)))) (by omega) (by omega) (by omega) (by omega)
  exact thinner_any x0 x1 x2 x3 x4 x5 x6 x7 x8 x9 x10 x11 x12 x13 x14 x15 x16 x17 x18 x19 x20 x21 x22 x23 x24 y0 y1 y2 h0 h1 (fun n hn => bounds_u8 (hc n hn)) (Lib.hid (store_made h0)) (Lib.hid (double_made h0)) (Lib.hid (box_good (h1 x18 (by simp)) (h1 x19 (by simp)) (h1 x20 (by simp)) (h1 x21 (by simp)) (h1 x22 (by simp)) (h1 x23 (by simp)) (h1 x24 (by simp)))) (Lib.hid (single_ok h0)) (Lib.hid (double_ok h0)) (Lib.hid (hm false)) (Lib.hid (hm true)) (Lib.hid (thick_le false h0)) (Lib.hid (thick_le true h0)) w

theorem thinner_params : ∀ t ∈ Try.f5.params.toList, Try.prog.readableRec t = true ∧ t < Try.prog.types.size := by
  rw [Try.params5]
  intro t ht
  simp only [List.mem_cons, List.not_mem_nil, or_false] at ht
  rcases ht with rfl | rfl
  · exact ⟨by kernel_rfl, of_decide_eq_true (by kernel_rfl)⟩
  · exact ⟨by kernel_rfl, of_decide_eq_true (by kernel_rfl)⟩

set_option maxRecDepth 100000 in
theorem thinner_contract (H : Type) (enc : TypeId × Value → H) (W : World) (base : Nat) (args : Array Value) (ds gs : List (DataW H)) (before : List MemPlace)
    (hval : ∀ (j : Nat) t v, Try.f5.params[j]? = some t → args[j]? = some v → Value.okWide Try.prog W .any base t v)
    (hW : DataW.Whole enc Try.prog Try.f5.params.toList Rows.topThinnerBoardSpec.vars false W args.toList ds gs before) :
    Calls Try.prog 5 args W fun e W' => ∃ v, e = .returned v ∧ Rows.topThinnerBoardSpec.post enc Try.prog Try.f5 false true false false W args v W' := by
  have hW' := hW
  obtain ⟨p, q, hA0, hV, rfl, hfz, hnd⟩ := hW
  have hA : DataW.TrodAll enc Try.prog W 0 (fun _ => true) true Try.f5.params.toList args.toList ds p := hA0
  rw [Try.params5] at hA hval
  obtain ⟨v0, vs0, d0, ds0, p0, q0, hargs, rfl, rfl, h0, r0⟩ := trodAll_cons hA
  obtain ⟨v1, vs1, d1, ds1, p1, q1, rfl, rfl, rfl, h1, r1⟩ := trodAll_cons r0
  obtain ⟨rfl, rfl, rfl⟩ := trodAll_nil r1
  obtain rfl : args = #[v0, v1] := by cases args; simp_all
  obtain ⟨rfl, rfl⟩ := trodVars_none hV
  obtain ⟨l, rfl, hl, hw⟩ := agg_ints (k := .u8) (f := 5) (t := 28) (by kernel_rfl) (by rw [show Try.prog.cellsOf 28 = 25 from by kernel_rfl]; decide) h0
  obtain ⟨t, rfl, ht, hw2⟩ := agg_ints (k := .u8) (f := 3) (t := 24) (by kernel_rfl) (by rw [show Try.prog.cellsOf 24 = 3 from by kernel_rfl]; decide) h1
  clear hA0
  refine (thinner_walk l t (hl.trans (by kernel_rfl)) (ht.trans (by kernel_rfl)) hw hw2 W).mono fun e W' ⟨he, hg⟩ => ?_
  subst he
  exact ⟨_, rfl, law_true laidAll thinner_params Try.underlying4 (by kernel_rfl) rfl rfl hW' hg⟩

set_option maxRecDepth 100000 in
theorem thinner_lifted (os : Os) (started : os.Started) (H : Type) (enc : TypeId × Value → H) :
    ReturnsInHanded {} Try.checked os 5 .any (Rows.topThinnerBoardSpec.pre6 enc Try.prog Try.f5 Rows.topThinnerBoardRow.domain false) (Rows.topThinnerBoardSpec.post enc Try.prog Try.f5 false true false false) := by
  refine returnsInHanded_of_change (C := Try.checked) noGodebug started (by kernel_rfl) Try.func5
    (ChangeSpec.witness6 (enc := enc) (C := Try.checked) false ⟨#[], #[.agg (Array.replicate 25 (.int .u8 0)), .agg (Array.replicate 3 (.int .u8 0))], []⟩ 8 (by kernel_rfl) (by kernel_rfl) (by kernel_rfl) (by kernel_rfl)) ?_
  intro W base args ds gs before hval hW _ _
  exact thinner_contract H enc W base args ds gs before hval hW

theorem topThinnerBoard_holds : Rows.TopThinnerBoardSaid :=
  OpenClaim.holds_of_wide 5 Try.f5 rfl rfl rfl rfl rfl rfl rfl ⟨rfl, rfl, rfl, rfl, rfl⟩ rfl rfl rfl rfl rfl (by kernel_rfl) Try.func5 (by kernel_rfl)
    (of_decide_eq_true (by kernel_rfl)) (by unfold Func.isWrapper; first | (rw [if_pos (by decide +kernel)]; kernel_rfl) | (rw [if_neg (by decide +kernel)]; exact ⟨rfl, rfl⟩))
    (fun os started H enc _ => thinner_lifted os started H enc)
#print axioms topThinnerBoard_holds
end Go.Proofs.Ytbohjmogpiaejaa
