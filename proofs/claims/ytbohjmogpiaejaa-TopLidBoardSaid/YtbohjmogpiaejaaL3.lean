/- TopLidBoard's own body. (Made by gen_lid.py.) -/
import Derived.Test.YtbohjmogpiaejaaL2
import Derived.Test.YtbohjmogpiaejaaR4
import Derived.BigQuiet
namespace Go.Proofs.Ytbohjmogpiaejaa
set_option linter.unusedVariables false
set_option linter.unusedSimpArgs false
open Go.RowKit

set_option maxRecDepth 100000 in
set_option maxHeartbeats 4000000 in
theorem lid_any (x0 x1 x2 x3 x4 x5 x6 x7 x8 x9 x10 x11 x12 x13 x14 x15 x16 x17 x18 x19 x20 x21 x22 x23 x24 : Int) (mo m : Int) (truth : List Int) (hb0 : ∀ n ∈ [x0, x1, x2, x3, x4, x5, x6, x7, x8, x9, x10, x11, x12, x13, x14, x15, x16, x17], Byt n) (hb1 : ∀ n ∈ [x18, x19, x20, x21, x22, x23, x24], Byt n) (hT : Bytes truth) (hmo : Byt mo) (hmm : mo.tmod 40 = m) (m0 : 0 ≤ m) (m1 : m ≤ 39)
    (HM1 : Hid (madeL (storeP x0 x1 x2 x3 x4 x5 x6 x7 x8 x9 x10 x11) (storeF x12 x13 x14 x15 x16 x17) [0, 1, 2] [0] = 0)) (HM2 : Hid (madeL (storeP x0 x1 x2 x3 x4 x5 x6 x7 x8 x9 x10 x11) (storeF x12 x13 x14 x15 x16 x17) [0, 1, 2, 1, 0] [0, 1] = 0)) (HGL : Hid (GoodB (x20 % 50) (40 + x21 + m) (x24 % 21) (bxPan x18 x19 m) (bxTop x19 x22) (bxBot x19 x22 x23) false)) (HGB : Hid (GoodB (x20 % 50) (40 + x21) (x24 % 21) (bxPan x18 x19 0) (bxTop x19 x22) (bxBot x19 x22 x23) false)) (HK1 : Hid (okSpan 1 10000 (thickL false (storeP x0 x1 x2 x3 x4 x5 x6 x7 x8 x9 x10 x11) (storeF x12 x13 x14 x15 x16 x17) [0, 1, 2] [0]) (thickL true (storeP x0 x1 x2 x3 x4 x5 x6 x7 x8 x9 x10 x11) (storeF x12 x13 x14 x15 x16 x17) [0, 1, 2] [0]) = true)) (HK2 : Hid (okSpan 1 10000 (thickL false (storeP x0 x1 x2 x3 x4 x5 x6 x7 x8 x9 x10 x11) (storeF x12 x13 x14 x15 x16 x17) [0, 1, 2, 1, 0] [0, 1]) (thickL true (storeP x0 x1 x2 x3 x4 x5 x6 x7 x8 x9 x10 x11) (storeF x12 x13 x14 x15 x16 x17) [0, 1, 2, 1, 0] [0, 1]) = true)) (td : Option Addr) (tcap : Nat) (w : World) (ht : URow w td truth) :
    Calls Try.prog 4 #[.agg #[.int .u8 x0, .int .u8 x1, .int .u8 x2, .int .u8 x3, .int .u8 x4, .int .u8 x5, .int .u8 x6, .int .u8 x7, .int .u8 x8, .int .u8 x9, .int .u8 x10, .int .u8 x11, .int .u8 x12, .int .u8 x13, .int .u8 x14, .int .u8 x15, .int .u8 x16, .int .u8 x17, .int .u8 x18, .int .u8 x19, .int .u8 x20, .int .u8 x21, .int .u8 x22, .int .u8 x23, .int .u8 x24], .int .u8 mo, .slice td truth.length tcap] w fun e w' => e = .returned (.bool true) ∧ Gr w w' := by
  have gg := Gr.al w (.cells #[.int .u8 x0, .int .u8 x1, .int .u8 x2, .int .u8 x3, .int .u8 x4, .int .u8 x5, .int .u8 x6, .int .u8 x7, .int .u8 x8, .int .u8 x9, .int .u8 x10, .int .u8 x11, .int .u8 x12, .int .u8 x13, .int .u8 x14, .int .u8 x15, .int .u8 x16, .int .u8 x17, .int .u8 x18, .int .u8 x19, .int .u8 x20, .int .u8 x21, .int .u8 x22, .int .u8 x23, .int .u8 x24] 28)
  have hx := Box.new w [.int .u8 x0, .int .u8 x1, .int .u8 x2, .int .u8 x3, .int .u8 x4, .int .u8 x5, .int .u8 x6, .int .u8 x7, .int .u8 x8, .int .u8 x9, .int .u8 x10, .int .u8 x11, .int .u8 x12, .int .u8 x13, .int .u8 x14, .int .u8 x15, .int .u8 x16, .int .u8 x17, .int .u8 x18, .int .u8 x19, .int .u8 x20, .int .u8 x21, .int .u8 x22, .int .u8 x23, .int .u8 x24] 28 w.heap.size rfl
  have H0 := Lib.hid hb0
  have H1 := Lib.hid hb1
  have HMO := Lib.hid hmo
  have HMM := Lib.hid hmm
  have HLO : Hid (60 ≤ bxLong x18 0 ∧ 50 ≤ bxWide x19 0 ∧ 0 ≤ x21) := Lib.hid (by
    have a := (hb1 x18 (by simp)).1
    have b := (hb1 x19 (by simp)).1
    have c := (hb1 x21 (by simp)).1
    unfold bxLong bxWide
    omega)
  clear hb0 hb1 hmo hmm
  go_enter Try.func4, Try.ntmps4
  go_upto_region 1 with fail
  refine wp_abs (fun W => Gr w W ∧ Box W w.heap.size [.int .u8 x0, .int .u8 x1, .int .u8 x2, .int .u8 x3, .int .u8 x4, .int .u8 x5, .int .u8 x6, .int .u8 x7, .int .u8 x8, .int .u8 x9, .int .u8 x10, .int .u8 x11, .int .u8 x12, .int .u8 x13, .int .u8 x14, .int .u8 x15, .int .u8 x16, .int .u8 x17, .int .u8 x18, .int .u8 x19, .int .u8 x20, .int .u8 x21, .int .u8 x22, .int .u8 x23, .int .u8 x24]) ⟨gg, hx⟩ ?_
  clear gg hx
  rintro W ⟨gg, hx⟩
  refine wp_region_inv' 12 [(1, 0), (4, 3), (5, 4), (6, 2), (6, 5), (8, 7)] (fun a0 listed a v => ∃ (t31 t32 t33 t34 t35 t36 t37 t38 t39 t7 t8 t9 : Value) (A : List (Option Addr)) (Bs : List Nat), a = ⟨#[.agg #[.int .u8 x0, .int .u8 x1, .int .u8 x2, .int .u8 x3, .int .u8 x4, .int .u8 x5, .int .u8 x6, .int .u8 x7, .int .u8 x8, .int .u8 x9, .int .u8 x10, .int .u8 x11, .int .u8 x12, .int .u8 x13, .int .u8 x14, .int .u8 x15, .int .u8 x16, .int .u8 x17, .int .u8 x18, .int .u8 x19, .int .u8 x20, .int .u8 x21, .int .u8 x22, .int .u8 x23, .int .u8 x24], .int .u8 mo, .slice td truth.length tcap, .pointer (some ⟨w.heap.size, 0, none⟩), undef, undef, .bool false, t7, t8, t9, undef, undef, undef, undef, undef, undef, undef, undef, undef, undef, undef, undef, undef, undef, undef, undef, undef, undef, undef, undef, undef, t31, t32, t33, t34, t35, t36, t37, t38, t39, undef, undef, undef, undef, undef, undef, undef, undef, undef, undef, undef, undef, undef, undef, undef, undef, undef, undef, undef, undef, undef, undef, undef, undef, undef, undef, undef, undef, undef, undef, undef, undef, undef, undef, undef, undef, undef, undef, undef, undef, undef, undef, undef, undef, undef, undef, undef, undef, undef, undef, undef, undef, undef, undef, undef, undef, undef, undef, undef, undef, undef, undef, undef, undef, undef, undef, undef, undef, undef, undef, undef, undef, undef, undef, undef, undef, undef, undef, undef, undef, undef, undef, undef, undef, undef, undef, undef, undef, undef, undef, undef, undef, undef, undef, undef, undef, undef, undef, undef, undef, undef, undef, undef, undef, undef, undef, undef, undef, undef, undef, undef, undef, undef, undef, undef, undef, undef, undef, undef, undef, undef, undef, undef, undef, undef, undef, undef, undef, undef, undef, undef, undef, undef, undef, undef, undef, undef, undef, undef, undef, undef, undef, undef, undef, undef, undef, undef, undef, undef, undef, undef, undef, undef, undef, undef, undef, undef, undef, undef, undef, undef, undef, undef, undef, undef, undef, undef, undef, undef, undef, undef], []⟩ ∧ Sep W v A Bs ∧ Fact listed 0 (t31 = .agg #[.int .u8 x0, .int .u8 x1, .int .u8 x2, .int .u8 x3, .int .u8 x4, .int .u8 x5, .int .u8 x6, .int .u8 x7, .int .u8 x8, .int .u8 x9, .int .u8 x10, .int .u8 x11, .int .u8 x12, .int .u8 x13, .int .u8 x14, .int .u8 x15, .int .u8 x16, .int .u8 x17, .int .u8 x18, .int .u8 x19, .int .u8 x20, .int .u8 x21, .int .u8 x22, .int .u8 x23, .int .u8 x24]) ∧ Fact listed 1 (CStore (storeP x0 x1 x2 x3 x4 x5 x6 x7 x8 x9 x10 x11) (storeF x12 x13 x14 x15 x16 x17) v A t32) ∧ Fact listed 2 (t33 = .agg #[.int .u8 x0, .int .u8 x1, .int .u8 x2, .int .u8 x3, .int .u8 x4, .int .u8 x5, .int .u8 x6, .int .u8 x7, .int .u8 x8, .int .u8 x9, .int .u8 x10, .int .u8 x11, .int .u8 x12, .int .u8 x13, .int .u8 x14, .int .u8 x15, .int .u8 x16, .int .u8 x17, .int .u8 x18, .int .u8 x19, .int .u8 x20, .int .u8 x21, .int .u8 x22, .int .u8 x23, .int .u8 x24]) ∧ Fact listed 3 (t34 = .int .u8 mo) ∧ Fact listed 4 (t35 = .int .i64 mo) ∧ Fact listed 5 (t36 = .int .i64 m) ∧ Fact listed 6 (CBlank (x20 % 50) (40 + x21 + m) (x24 % 21) (bxPan x18 x19 m) (bxTop x19 x22) (bxBot x19 x22 x23) false v A t37) ∧ Fact listed 7 (t38 = .agg #[.int .u8 x0, .int .u8 x1, .int .u8 x2, .int .u8 x3, .int .u8 x4, .int .u8 x5, .int .u8 x6, .int .u8 x7, .int .u8 x8, .int .u8 x9, .int .u8 x10, .int .u8 x11, .int .u8 x12, .int .u8 x13, .int .u8 x14, .int .u8 x15, .int .u8 x16, .int .u8 x17, .int .u8 x18, .int .u8 x19, .int .u8 x20, .int .u8 x21, .int .u8 x22, .int .u8 x23, .int .u8 x24]) ∧ Fact listed 8 (CBlank (x20 % 50) (40 + x21) (x24 % 21) (bxPan x18 x19 0) (bxTop x19 x22) (bxBot x19 x22 x23) false v A t39) ∧ Fact listed 9 (CPtr [.slice none 0 0, .slice none 0 0] 33 v Bs t7) ∧ Fact listed 10 (CPtr [.int .i64 0, .slice none 0 0, .int .i64 0, .slice none 0 0, .slice none 0 0, .int .i64 0, .bool false] 40 v Bs t8) ∧ Fact listed 11 (CPtr [.int .i64 0, .slice none 0 0, .int .i64 0, .slice none 0 0, .slice none 0 0, .int .i64 0, .bool false] 40 v Bs t9) ∧ Fact listed 10 (Fact listed 11 (t8 ≠ t9))) (by kernel_rfl) (by kernel_rfl) (by kernel_rfl) ?init ?step ?fin
  case init => exact ⟨undef, undef, undef, undef, undef, undef, undef, undef, undef, undef, undef, undef, [], [], by rfl, ⟨Gr.dr W, by simp, by simp⟩, Fact.no _ _ _, Fact.no _ _ _, Fact.no _ _ _, Fact.no _ _ _, Fact.no _ _ _, Fact.no _ _ _, Fact.no _ _ _, Fact.no _ _ _, Fact.no _ _ _, Fact.no _ _ _, Fact.no _ _ _, Fact.no _ _ _, Fact.no _ _ _⟩
  case step => as_aux_lemma =>
    rintro i hi listed a v hun hdep ⟨t31, t32, t33, t34, t35, t36, t37, t38, t39, t7, t8, t9, A, Bs, rfl, hsep, f0, f1, f2, f3, f4, f5, f6, f7, f8, f9, f10, f11, fne⟩
    have hi8 : i = 0 ∨ i = 1 ∨ i = 2 ∨ i = 3 ∨ i = 4 ∨ i = 5 ∨ i = 6 ∨ i = 7 ∨ i = 8 ∨ i = 9 ∨ i = 10 ∨ i = 11 := by omega
    rcases hi8 with rfl | rfl | rfl | rfl | rfl | rfl | rfl | rfl | rfl | rfl | rfl | rfl
    · clear hdep
      refine wpOp_step rfl (fun K' hK => ?_)
      rw [if_pos (by rfl)]
      refine wp_load_mid 28 _ rfl w.heap.size 0 (by rfl) [.int .u8 x0, .int .u8 x1, .int .u8 x2, .int .u8 x3, .int .u8 x4, .int .u8 x5, .int .u8 x6, .int .u8 x7, .int .u8 x8, .int .u8 x9, .int .u8 x10, .int .u8 x11, .int .u8 x12, .int .u8 x13, .int .u8 x14, .int .u8 x15, .int .u8 x16, .int .u8 x17, .int .u8 x18, .int .u8 x19, .int .u8 x20, .int .u8 x21, .int .u8 x22, .int .u8 x23, .int .u8 x24] _ (fun j u hu => by rw [Nat.zero_add]; exact (hx.keep hsep.gr).2 j u hu) Try.underlying28 rfl (by kernel_rfl) ?_
      exact hK _ _ ⟨_, t32, t33, t34, t35, t36, t37, t38, t39, t7, t8, t9, A, Bs, by rfl, hsep, Fact.lay (rfl), f1.keep (by decide), f2.keep (by decide), f3.keep (by decide), f4.keep (by decide), f5.keep (by decide), f6.keep (by decide), f7.keep (by decide), f8.keep (by decide), f9.keep (by decide), f10.keep (by decide), f11.keep (by decide), (fne.keep (by decide)).map (fun h => h.keep (by decide))⟩
    · have d0 := f0 (hdep 0 (by simp))
      clear hdep
      subst d0
      refine wpOp_step rfl (fun K' hK => ?_)
      go_simp
      refine (pubStore_any _ _ _ _ _ _ _ _ _ _ _ _ _ _ _ _ _ _ _ _ _ _ _ _ _ H0.out v).mono ?_
      rintro e v' ⟨a, ac, g, gc, rfl, hg, hr1, hr2, n1, n2⟩
      have s1 := hsep.call hg [a, g] (two_new n1 n2 (hr1.addr (by simp [storeP])) (hr2.addr (by simp [storeF])))
      exact hK _ _ ⟨_, _, t33, t34, t35, t36, t37, t38, t39, t7, t8, t9, _, Bs, by rfl, s1, f0.keep (by decide), Fact.lay (⟨a, ac, g, gc, rfl, hr1, hr2, by simp, by simp⟩), f2.keep (by decide), f3.keep (by decide), f4.keep (by decide), f5.keep (by decide), (f6.keep (by decide)).map (fun h => h.up hg (mem_app _ _)), f7.keep (by decide), (f8.keep (by decide)).map (fun h => h.up hg (mem_app _ _)), (f9.keep (by decide)).map (fun h => h.up hg (mem_same _)), (f10.keep (by decide)).map (fun h => h.up hg (mem_same _)), (f11.keep (by decide)).map (fun h => h.up hg (mem_same _)), (fne.keep (by decide)).map (fun h => h.keep (by decide))⟩
    · clear hdep
      refine wpOp_step rfl (fun K' hK => ?_)
      rw [if_pos (by rfl)]
      refine wp_load_mid 28 _ rfl w.heap.size 0 (by rfl) [.int .u8 x0, .int .u8 x1, .int .u8 x2, .int .u8 x3, .int .u8 x4, .int .u8 x5, .int .u8 x6, .int .u8 x7, .int .u8 x8, .int .u8 x9, .int .u8 x10, .int .u8 x11, .int .u8 x12, .int .u8 x13, .int .u8 x14, .int .u8 x15, .int .u8 x16, .int .u8 x17, .int .u8 x18, .int .u8 x19, .int .u8 x20, .int .u8 x21, .int .u8 x22, .int .u8 x23, .int .u8 x24] _ (fun j u hu => by rw [Nat.zero_add]; exact (hx.keep hsep.gr).2 j u hu) Try.underlying28 rfl (by kernel_rfl) ?_
      exact hK _ _ ⟨t31, t32, _, t34, t35, t36, t37, t38, t39, t7, t8, t9, A, Bs, by rfl, hsep, f0.keep (by decide), f1.keep (by decide), Fact.lay (rfl), f3.keep (by decide), f4.keep (by decide), f5.keep (by decide), f6.keep (by decide), f7.keep (by decide), f8.keep (by decide), f9.keep (by decide), f10.keep (by decide), f11.keep (by decide), (fne.keep (by decide)).map (fun h => h.keep (by decide))⟩
    · clear hdep
      refine wpOp_step rfl (fun K' hK => ?_)
      go_simp
      exact hK _ _ ⟨t31, t32, t33, _, t35, t36, t37, t38, t39, t7, t8, t9, A, Bs, by rfl, hsep, f0.keep (by decide), f1.keep (by decide), f2.keep (by decide), Fact.lay (rfl), f4.keep (by decide), f5.keep (by decide), f6.keep (by decide), f7.keep (by decide), f8.keep (by decide), f9.keep (by decide), f10.keep (by decide), f11.keep (by decide), (fne.keep (by decide)).map (fun h => h.keep (by decide))⟩
    · have d3 := f3 (hdep 3 (by simp))
      clear hdep
      subst d3
      obtain ⟨q0, q1⟩ := HMO.out
      have hw_ : IntKind.i64.wrap mo = mo := IntWalk.i64_in _ (by omega)
      refine wpOp_step rfl (fun K' hK => ?_)
      go_simp
      exact hK _ _ ⟨t31, t32, t33, _, _, t36, t37, t38, t39, t7, t8, t9, A, Bs, by rfl, hsep, f0.keep (by decide), f1.keep (by decide), f2.keep (by decide), f3.keep (by decide), Fact.lay (rfl), f5.keep (by decide), f6.keep (by decide), f7.keep (by decide), f8.keep (by decide), f9.keep (by decide), f10.keep (by decide), f11.keep (by decide), (fne.keep (by decide)).map (fun h => h.keep (by decide))⟩
    · have d4 := f4 (hdep 4 (by simp))
      clear hdep
      subst d4
      have hq := HMM.out
      refine wpOp_step rfl (fun K' hK => ?_)
      go_simp
      exact hK _ _ ⟨t31, t32, t33, t34, _, _, t37, t38, t39, t7, t8, t9, A, Bs, by rfl, hsep, f0.keep (by decide), f1.keep (by decide), f2.keep (by decide), f3.keep (by decide), f4.keep (by decide), Fact.lay (rfl), f6.keep (by decide), f7.keep (by decide), f8.keep (by decide), f9.keep (by decide), f10.keep (by decide), f11.keep (by decide), (fne.keep (by decide)).map (fun h => h.keep (by decide))⟩
    · have d2 := f2 (hdep 2 (by simp))
      have d5 := f5 (hdep 5 (by simp))
      clear hdep
      subst d2 d5
      refine wpOp_step rfl (fun K' hK => ?_)
      go_simp
      refine (pubBox_any x0 x1 x2 x3 x4 x5 x6 x7 x8 x9 x10 x11 x12 x13 x14 x15 x16 x17 x18 x19 x20 x21 x22 x23 x24 m (by omega) (by omega) (H1.out x18 (by simp)).1 (H1.out x18 (by simp)).2 (H1.out x19 (by simp)).1 (H1.out x19 (by simp)).2 (H1.out x20 (by simp)).1 (H1.out x20 (by simp)).2 (H1.out x21 (by simp)).1 (H1.out x21 (by simp)).2 (H1.out x22 (by simp)).1 (H1.out x22 (by simp)).2 (H1.out x23 (by simp)).1 (H1.out x23 (by simp)).2 (H1.out x24 (by simp)).1 (H1.out x24 (by simp)).2 v).mono ?_
      rintro e v' ⟨pa, pc, ta, tc, ba, bc, rfl, hg, hr1, hr2, hr3, n1, n2, n3⟩
      have s1 := hsep.call hg [pa, ta, ba] (three_new n1 n2 n3 (hr1.addr (by simp [bxPan])) (hr2.addr (by simp [bxTop])) (hr3.addr (by simp [bxBot])))
      exact hK _ _ ⟨t31, t32, _, t34, t35, _, _, t38, t39, t7, t8, t9, _, Bs, by rfl, s1, f0.keep (by decide), (f1.keep (by decide)).map (fun h => h.up hg (mem_app _ _)), f2.keep (by decide), f3.keep (by decide), f4.keep (by decide), f5.keep (by decide), Fact.lay (⟨pa, pc, ta, tc, ba, bc, rfl, hr1, hr2, hr3, by simp, by simp, by simp⟩), f7.keep (by decide), (f8.keep (by decide)).map (fun h => h.up hg (mem_app _ _)), (f9.keep (by decide)).map (fun h => h.up hg (mem_same _)), (f10.keep (by decide)).map (fun h => h.up hg (mem_same _)), (f11.keep (by decide)).map (fun h => h.up hg (mem_same _)), (fne.keep (by decide)).map (fun h => h.keep (by decide))⟩
    · clear hdep
      refine wpOp_step rfl (fun K' hK => ?_)
      rw [if_pos (by rfl)]
      refine wp_load_mid 28 _ rfl w.heap.size 0 (by rfl) [.int .u8 x0, .int .u8 x1, .int .u8 x2, .int .u8 x3, .int .u8 x4, .int .u8 x5, .int .u8 x6, .int .u8 x7, .int .u8 x8, .int .u8 x9, .int .u8 x10, .int .u8 x11, .int .u8 x12, .int .u8 x13, .int .u8 x14, .int .u8 x15, .int .u8 x16, .int .u8 x17, .int .u8 x18, .int .u8 x19, .int .u8 x20, .int .u8 x21, .int .u8 x22, .int .u8 x23, .int .u8 x24] _ (fun j u hu => by rw [Nat.zero_add]; exact (hx.keep hsep.gr).2 j u hu) Try.underlying28 rfl (by kernel_rfl) ?_
      exact hK _ _ ⟨t31, t32, t33, t34, t35, t36, t37, _, t39, t7, t8, t9, A, Bs, by rfl, hsep, f0.keep (by decide), f1.keep (by decide), f2.keep (by decide), f3.keep (by decide), f4.keep (by decide), f5.keep (by decide), f6.keep (by decide), Fact.lay (rfl), f8.keep (by decide), f9.keep (by decide), f10.keep (by decide), f11.keep (by decide), (fne.keep (by decide)).map (fun h => h.keep (by decide))⟩
    · have d7 := f7 (hdep 7 (by simp))
      clear hdep
      subst d7
      refine wpOp_step rfl (fun K' hK => ?_)
      go_simp
      have hpb := pubBox_any x0 x1 x2 x3 x4 x5 x6 x7 x8 x9 x10 x11 x12 x13 x14 x15 x16 x17 x18 x19 x20 x21 x22 x23 x24 0 (by omega) (by omega) (H1.out x18 (by simp)).1 (H1.out x18 (by simp)).2 (H1.out x19 (by simp)).1 (H1.out x19 (by simp)).2 (H1.out x20 (by simp)).1 (H1.out x20 (by simp)).2 (H1.out x21 (by simp)).1 (H1.out x21 (by simp)).2 (H1.out x22 (by simp)).1 (H1.out x22 (by simp)).2 (H1.out x23 (by simp)).1 (H1.out x23 (by simp)).2 (H1.out x24 (by simp)).1 (H1.out x24 (by simp)).2 v
      rw [show (40 + x21 + 0 : Int) = 40 + x21 from Int.add_zero _] at hpb
      refine hpb.mono ?_
      rintro e v' ⟨pa, pc, ta, tc, ba, bc, rfl, hg, hr1, hr2, hr3, n1, n2, n3⟩
      have s1 := hsep.call hg [pa, ta, ba] (three_new n1 n2 n3 (hr1.addr (by simp [bxPan])) (hr2.addr (by simp [bxTop])) (hr3.addr (by simp [bxBot])))
      exact hK _ _ ⟨t31, t32, t33, t34, t35, t36, t37, _, _, t7, t8, t9, _, Bs, by rfl, s1, f0.keep (by decide), (f1.keep (by decide)).map (fun h => h.up hg (mem_app _ _)), f2.keep (by decide), f3.keep (by decide), f4.keep (by decide), f5.keep (by decide), (f6.keep (by decide)).map (fun h => h.up hg (mem_app _ _)), f7.keep (by decide), Fact.lay (⟨pa, pc, ta, tc, ba, bc, rfl, hr1, hr2, hr3, by simp, by simp, by simp⟩), (f9.keep (by decide)).map (fun h => h.up hg (mem_same _)), (f10.keep (by decide)).map (fun h => h.up hg (mem_same _)), (f11.keep (by decide)).map (fun h => h.up hg (mem_same _)), (fne.keep (by decide)).map (fun h => h.keep (by decide))⟩
    · clear hdep
      refine wpOp_step rfl (fun K' hK => ?_)
      go_simp
      have hg := Gr.al v (.cells (List.toArray [.slice none 0 0, .slice none 0 0]) 33)
      have s1 := hsep.al (.cells (List.toArray [.slice none 0 0, .slice none 0 0]) 33)
      exact hK _ _ ⟨t31, t32, t33, t34, t35, t36, t37, t38, t39, _, t8, t9, A, _, by rfl, s1, f0.keep (by decide), (f1.keep (by decide)).map (fun h => h.up hg (mem_same _)), f2.keep (by decide), f3.keep (by decide), f4.keep (by decide), f5.keep (by decide), (f6.keep (by decide)).map (fun h => h.up hg (mem_same _)), f7.keep (by decide), (f8.keep (by decide)).map (fun h => h.up hg (mem_same _)), Fact.lay (CPtr.new v [.slice none 0 0, .slice none 0 0] 33 Bs), (f10.keep (by decide)).map (fun h => h.up hg (mem_con _ _)), (f11.keep (by decide)).map (fun h => h.up hg (mem_con _ _)), (fne.keep (by decide)).map (fun h => h.keep (by decide))⟩
    · clear hdep
      refine wpOp_step rfl (fun K' hK => ?_)
      go_simp
      have hg := Gr.al v (.cells (List.toArray [.int .i64 0, .slice none 0 0, .int .i64 0, .slice none 0 0, .slice none 0 0, .int .i64 0, .bool false]) 40)
      have s1 := hsep.al (.cells (List.toArray [.int .i64 0, .slice none 0 0, .int .i64 0, .slice none 0 0, .slice none 0 0, .int .i64 0, .bool false]) 40)
      exact hK _ _ ⟨t31, t32, t33, t34, t35, t36, t37, t38, t39, t7, _, t9, A, _, by rfl, s1, f0.keep (by decide), (f1.keep (by decide)).map (fun h => h.up hg (mem_same _)), f2.keep (by decide), f3.keep (by decide), f4.keep (by decide), f5.keep (by decide), (f6.keep (by decide)).map (fun h => h.up hg (mem_same _)), f7.keep (by decide), (f8.keep (by decide)).map (fun h => h.up hg (mem_same _)), (f9.keep (by decide)).map (fun h => h.up hg (mem_con _ _)), Fact.lay (CPtr.new v [.int .i64 0, .slice none 0 0, .int .i64 0, .slice none 0 0, .slice none 0 0, .int .i64 0, .bool false] 40 Bs), (f11.keep (by decide)).map (fun h => h.up hg (mem_con _ _)), Fact.lay (fun e5 => by obtain ⟨B, eB, hB0, _⟩ := f11 (by rwa [getD_set_ne false (by decide)] at e5); rw [eB]; intro e; have hlt_ := (hsep.bs B hB0).2; cases e; exact Nat.lt_irrefl _ hlt_)⟩
    · clear hdep
      refine wpOp_step rfl (fun K' hK => ?_)
      go_simp
      have hg := Gr.al v (.cells (List.toArray [.int .i64 0, .slice none 0 0, .int .i64 0, .slice none 0 0, .slice none 0 0, .int .i64 0, .bool false]) 40)
      have s1 := hsep.al (.cells (List.toArray [.int .i64 0, .slice none 0 0, .int .i64 0, .slice none 0 0, .slice none 0 0, .int .i64 0, .bool false]) 40)
      exact hK _ _ ⟨t31, t32, t33, t34, t35, t36, t37, t38, t39, t7, t8, _, A, _, by rfl, s1, f0.keep (by decide), (f1.keep (by decide)).map (fun h => h.up hg (mem_same _)), f2.keep (by decide), f3.keep (by decide), f4.keep (by decide), f5.keep (by decide), (f6.keep (by decide)).map (fun h => h.up hg (mem_same _)), f7.keep (by decide), (f8.keep (by decide)).map (fun h => h.up hg (mem_same _)), (f9.keep (by decide)).map (fun h => h.up hg (mem_con _ _)), (f10.keep (by decide)).map (fun h => h.up hg (mem_con _ _)), Fact.lay (CPtr.new v [.int .i64 0, .slice none 0 0, .int .i64 0, .slice none 0 0, .slice none 0 0, .int .i64 0, .bool false] 40 Bs), fun e4 => Fact.lay (by obtain ⟨B, eB, hB0, _⟩ := f10 (by rwa [getD_set_ne false (by decide)] at e4); rw [eB]; intro e; have hlt_ := (hsep.bs B hB0).2; cases e; exact Nat.lt_irrefl _ hlt_)⟩
  case fin =>
    rintro listed a v hls hall ⟨t31, t32, t33, t34, t35, t36, t37, t38, t39, t7, t8, t9, A, Bs, rfl, hsep, f0, f1, f2, f3, f4, f5, f6, f7, f8, f9, f10, f11, fne⟩
    obtain ⟨a1, ac1, g1, gc1, rfl, rp, rf, m1_, m2_⟩ := f1.now hall hls (by omega)
    obtain ⟨pa, pc, ta, tc, ba, bc, rfl, rpa, rta, rba, m5, m6, m7⟩ := f6.now hall hls (by omega)
    obtain ⟨pa1, pc1, ta1, tc1, ba1, bc1, rfl, rpa1, rta1, rba1, m8, m9, m10⟩ := f8.now hall hls (by omega)
    obtain ⟨B7, rfl, k7, z7⟩ := f9.now hall hls (by omega)
    obtain ⟨B8, rfl, k8, z8⟩ := f10.now hall hls (by omega)
    obtain ⟨B9, rfl, k9, z9⟩ := f11.now hall hls (by omega)
    have n78 : B7 ≠ B8 := z7.ne z8 (by decide)
    have n79 : B7 ≠ B9 := z7.ne z9 (by decide)
    have n89 : B8 ≠ B9 := fun e => ((fne.now hall hls (by omega)).now hall hls (by omega)) (by rw [e])
    have n87 := n78.symm
    have n97 := n79.symm
    have n98 := n89.symm
    have o7 := z7.own
    have o8 := z8.own
    have o9 := z9.own
    have gv := gg.tr hsep.gr
    have lb7 : w.heap.size ≤ B7 := Nat.le_trans gg.size (hsep.bs B7 k7).1
    have lb8 : w.heap.size ≤ B8 := Nat.le_trans gg.size (hsep.bs B8 k8).1
    have lb9 : w.heap.size ≤ B9 := Nat.le_trans gg.size (hsep.bs B9 k9).1
    clear f0 f1 f2 f3 f4 f5 f6 f7 f8 f9 f10 f11 fne z7 z8 z9 hall hls
    obtain ⟨u0, u1⟩ := o7.1.c2
    obtain ⟨v0, v1, v2, v3, v4, v5, v6⟩ := o8.1.c7
    obtain ⟨q0, q1, q2, q3, q4, q5, q6⟩ := o9.1.c7
    have y0 := o7.2 0
    have y1 := o7.2 1
    have c0 := o8.2 0
    have c1 := o8.2 1
    have c2 := o8.2 2
    have c3 := o8.2 3
    have c4 := o8.2 4
    have c5 := o8.2 5
    have c6 := o8.2 6
    have d0 := o9.2 0
    have d1 := o9.2 1
    have d2 := o9.2 2
    have d3 := o9.2 3
    have d4 := o9.2 4
    have d5 := o9.2 5
    have d6 := o9.2 6
    have Hlb := Lib.hid (And.intro lb7 (And.intro lb8 lb9))
    clear lb7 lb8 lb9
    show wpList _ _ _ (List.drop 12 _) _ _
    simp only [List.drop_succ_cons, List.drop_zero]
    go_upto_region 2 with fail
    clear u0 u1 v0 v1 v2 v3 v4 v5 v6 q0 q1 q2 q3 q4 q5 q6 y0 y1 c0 d0 c1 d1 c2 d2 c3 d3 c4 d4 c5 d5 c6 d6
    obtain ⟨lb7, lb8, lb9⟩ := Hlb.out
    refine wp_abs (fun U => Gr w U ∧ Box U B7 [.slice a1 (storeP x0 x1 x2 x3 x4 x5 x6 x7 x8 x9 x10 x11).length ac1, .slice g1 (storeF x12 x13 x14 x15 x16 x17).length gc1] ∧ Box U B8 [.int .i64 (x20 % 50), .slice pa (bxPan x18 x19 m).length pc, .int .i64 (40 + x21 + m), .slice ta (bxTop x19 x22).length tc, .slice ba (bxBot x19 x22 x23).length bc, .int .i64 (x24 % 21), .bool false] ∧ Box U B9 [.int .i64 (x20 % 50), .slice pa1 (bxPan x18 x19 0).length pc1, .int .i64 (40 + x21), .slice ta1 (bxTop x19 x22).length tc1, .slice ba1 (bxBot x19 x22 x23).length bc1, .int .i64 (x24 % 21), .bool false] ∧ PRow U a1 (storeP x0 x1 x2 x3 x4 x5 x6 x7 x8 x9 x10 x11) ∧ FRow U g1 (storeF x12 x13 x14 x15 x16 x17) ∧ IRow U pa (bxPan x18 x19 m) ∧ IRow U ta (bxTop x19 x22) ∧ IRow U ba (bxBot x19 x22 x23) ∧ IRow U pa1 (bxPan x18 x19 0) ∧ IRow U ta1 (bxTop x19 x22) ∧ IRow U ba1 (bxBot x19 x22 x23))
      ⟨((((((((((((((((gv.setCell (show w.heap.size ≤ B7 from lb7) _).setCell (show w.heap.size ≤ B7 from lb7) _).setCell (show w.heap.size ≤ B8 from lb8) _).setCell (show w.heap.size ≤ B8 from lb8) _).setCell (show w.heap.size ≤ B8 from lb8) _).setCell (show w.heap.size ≤ B8 from lb8) _).setCell (show w.heap.size ≤ B8 from lb8) _).setCell (show w.heap.size ≤ B8 from lb8) _).setCell (show w.heap.size ≤ B8 from lb8) _).setCell (show w.heap.size ≤ B9 from lb9) _).setCell (show w.heap.size ≤ B9 from lb9) _).setCell (show w.heap.size ≤ B9 from lb9) _).setCell (show w.heap.size ≤ B9 from lb9) _).setCell (show w.heap.size ≤ B9 from lb9) _).setCell (show w.heap.size ≤ B9 from lb9) _).setCell (show w.heap.size ≤ B9 from lb9) _), ((((((((((((((((o7.set (i := 0) (by simp)).set (i := 1) (by simp)).other n78).other n78).other n78).other n78).other n78).other n78).other n78).other n79).other n79).other n79).other n79).other n79).other n79).other n79).1, ((((((((((((((((o8.other n87).other n87).set (i := 0) (by simp)).set (i := 1) (by simp)).set (i := 2) (by simp)).set (i := 3) (by simp)).set (i := 4) (by simp)).set (i := 5) (by simp)).set (i := 6) (by simp)).other n89).other n89).other n89).other n89).other n89).other n89).other n89).1, ((((((((((((((((o9.other n97).other n97).other n98).other n98).other n98).other n98).other n98).other n98).other n98).set (i := 0) (by simp)).set (i := 1) (by simp)).set (i := 2) (by simp)).set (i := 3) (by simp)).set (i := 4) (by simp)).set (i := 5) (by simp)).set (i := 6) (by simp)).1, ((((((((((((((((rp.setAt (hsep.apart m1_ k7) _ _).setAt (hsep.apart m1_ k7) _ _).setAt (hsep.apart m1_ k8) _ _).setAt (hsep.apart m1_ k8) _ _).setAt (hsep.apart m1_ k8) _ _).setAt (hsep.apart m1_ k8) _ _).setAt (hsep.apart m1_ k8) _ _).setAt (hsep.apart m1_ k8) _ _).setAt (hsep.apart m1_ k8) _ _).setAt (hsep.apart m1_ k9) _ _).setAt (hsep.apart m1_ k9) _ _).setAt (hsep.apart m1_ k9) _ _).setAt (hsep.apart m1_ k9) _ _).setAt (hsep.apart m1_ k9) _ _).setAt (hsep.apart m1_ k9) _ _).setAt (hsep.apart m1_ k9) _ _), ((((((((((((((((rf.setAt (hsep.apart m2_ k7) _ _).setAt (hsep.apart m2_ k7) _ _).setAt (hsep.apart m2_ k8) _ _).setAt (hsep.apart m2_ k8) _ _).setAt (hsep.apart m2_ k8) _ _).setAt (hsep.apart m2_ k8) _ _).setAt (hsep.apart m2_ k8) _ _).setAt (hsep.apart m2_ k8) _ _).setAt (hsep.apart m2_ k8) _ _).setAt (hsep.apart m2_ k9) _ _).setAt (hsep.apart m2_ k9) _ _).setAt (hsep.apart m2_ k9) _ _).setAt (hsep.apart m2_ k9) _ _).setAt (hsep.apart m2_ k9) _ _).setAt (hsep.apart m2_ k9) _ _).setAt (hsep.apart m2_ k9) _ _), ((((((((((((((((rpa.setAt (hsep.apart m5 k7) _ _).setAt (hsep.apart m5 k7) _ _).setAt (hsep.apart m5 k8) _ _).setAt (hsep.apart m5 k8) _ _).setAt (hsep.apart m5 k8) _ _).setAt (hsep.apart m5 k8) _ _).setAt (hsep.apart m5 k8) _ _).setAt (hsep.apart m5 k8) _ _).setAt (hsep.apart m5 k8) _ _).setAt (hsep.apart m5 k9) _ _).setAt (hsep.apart m5 k9) _ _).setAt (hsep.apart m5 k9) _ _).setAt (hsep.apart m5 k9) _ _).setAt (hsep.apart m5 k9) _ _).setAt (hsep.apart m5 k9) _ _).setAt (hsep.apart m5 k9) _ _), ((((((((((((((((rta.setAt (hsep.apart m6 k7) _ _).setAt (hsep.apart m6 k7) _ _).setAt (hsep.apart m6 k8) _ _).setAt (hsep.apart m6 k8) _ _).setAt (hsep.apart m6 k8) _ _).setAt (hsep.apart m6 k8) _ _).setAt (hsep.apart m6 k8) _ _).setAt (hsep.apart m6 k8) _ _).setAt (hsep.apart m6 k8) _ _).setAt (hsep.apart m6 k9) _ _).setAt (hsep.apart m6 k9) _ _).setAt (hsep.apart m6 k9) _ _).setAt (hsep.apart m6 k9) _ _).setAt (hsep.apart m6 k9) _ _).setAt (hsep.apart m6 k9) _ _).setAt (hsep.apart m6 k9) _ _), ((((((((((((((((rba.setAt (hsep.apart m7 k7) _ _).setAt (hsep.apart m7 k7) _ _).setAt (hsep.apart m7 k8) _ _).setAt (hsep.apart m7 k8) _ _).setAt (hsep.apart m7 k8) _ _).setAt (hsep.apart m7 k8) _ _).setAt (hsep.apart m7 k8) _ _).setAt (hsep.apart m7 k8) _ _).setAt (hsep.apart m7 k8) _ _).setAt (hsep.apart m7 k9) _ _).setAt (hsep.apart m7 k9) _ _).setAt (hsep.apart m7 k9) _ _).setAt (hsep.apart m7 k9) _ _).setAt (hsep.apart m7 k9) _ _).setAt (hsep.apart m7 k9) _ _).setAt (hsep.apart m7 k9) _ _), ((((((((((((((((rpa1.setAt (hsep.apart m8 k7) _ _).setAt (hsep.apart m8 k7) _ _).setAt (hsep.apart m8 k8) _ _).setAt (hsep.apart m8 k8) _ _).setAt (hsep.apart m8 k8) _ _).setAt (hsep.apart m8 k8) _ _).setAt (hsep.apart m8 k8) _ _).setAt (hsep.apart m8 k8) _ _).setAt (hsep.apart m8 k8) _ _).setAt (hsep.apart m8 k9) _ _).setAt (hsep.apart m8 k9) _ _).setAt (hsep.apart m8 k9) _ _).setAt (hsep.apart m8 k9) _ _).setAt (hsep.apart m8 k9) _ _).setAt (hsep.apart m8 k9) _ _).setAt (hsep.apart m8 k9) _ _), ((((((((((((((((rta1.setAt (hsep.apart m9 k7) _ _).setAt (hsep.apart m9 k7) _ _).setAt (hsep.apart m9 k8) _ _).setAt (hsep.apart m9 k8) _ _).setAt (hsep.apart m9 k8) _ _).setAt (hsep.apart m9 k8) _ _).setAt (hsep.apart m9 k8) _ _).setAt (hsep.apart m9 k8) _ _).setAt (hsep.apart m9 k8) _ _).setAt (hsep.apart m9 k9) _ _).setAt (hsep.apart m9 k9) _ _).setAt (hsep.apart m9 k9) _ _).setAt (hsep.apart m9 k9) _ _).setAt (hsep.apart m9 k9) _ _).setAt (hsep.apart m9 k9) _ _).setAt (hsep.apart m9 k9) _ _), ((((((((((((((((rba1.setAt (hsep.apart m10 k7) _ _).setAt (hsep.apart m10 k7) _ _).setAt (hsep.apart m10 k8) _ _).setAt (hsep.apart m10 k8) _ _).setAt (hsep.apart m10 k8) _ _).setAt (hsep.apart m10 k8) _ _).setAt (hsep.apart m10 k8) _ _).setAt (hsep.apart m10 k8) _ _).setAt (hsep.apart m10 k8) _ _).setAt (hsep.apart m10 k9) _ _).setAt (hsep.apart m10 k9) _ _).setAt (hsep.apart m10 k9) _ _).setAt (hsep.apart m10 k9) _ _).setAt (hsep.apart m10 k9) _ _).setAt (hsep.apart m10 k9) _ _).setAt (hsep.apart m10 k9) _ _)⟩ ?_
    clear gv n78 n79 n89 n87 n97 n98 o7 o8 o9 rp rf rpa rta rba rpa1 rta1 rba1 hsep hx gg m1_ m2_ m5 m6 m7 m8 m9 m10 k7 k8 k9 lb7 lb8 lb9 Hlb
    rintro U ⟨gU, b7, b8, b9, rp, rf, rpa, rta, rba, rpa1, rta1, rba1⟩
    refine (show (∀ s : Nat → Value, Code.wp Try.prog _ _ ⟨#[s 0, s 1, .slice td truth.length tcap, s 3, s 4, s 5, .bool false, .pointer (some ⟨B7, 0, none⟩), .pointer (some ⟨B8, 0, none⟩), .pointer (some ⟨B9, 0, none⟩), undef, undef, undef, undef, undef, undef, undef, undef, undef, undef, undef, undef, undef, undef, undef, undef, undef, undef, undef, undef, undef, s 31, s 32, s 33, s 34, s 35, s 36, s 37, s 38, s 39, undef, undef, undef, undef, undef, undef, undef, undef, undef, undef, undef, undef, undef, undef, undef, undef, undef, undef, undef, undef, undef, undef, undef, undef, undef, undef, undef, undef, undef, undef, undef, undef, undef, undef, undef, undef, undef, undef, undef, undef, undef, undef, undef, undef, undef, undef, undef, undef, undef, undef, undef, undef, undef, undef, undef, undef, undef, undef, undef, undef, undef, undef, undef, undef, undef, undef, undef, undef, undef, undef, undef, undef, undef, undef, undef, undef, undef, undef, undef, undef, undef, undef, undef, undef, undef, undef, undef, undef, undef, undef, undef, undef, undef, undef, undef, undef, undef, undef, undef, undef, undef, undef, undef, undef, undef, undef, undef, undef, undef, undef, undef, undef, undef, undef, undef, undef, undef, undef, undef, undef, undef, undef, undef, undef, undef, undef, undef, undef, undef, undef, undef, undef, undef, undef, undef, undef, undef, undef, undef, undef, undef, undef, undef, undef, undef, undef, undef, undef, undef, undef, undef, undef, undef, undef, undef, undef, undef, undef, undef, undef, undef, undef, undef, undef, undef, undef, undef, undef, undef, undef, undef], []⟩ _) → _ from fun h => h ((fun l : List Value => fun i => l.getD i undef) [_, _, undef, _, _, _, undef, undef, undef, undef, undef, undef, undef, undef, undef, undef, undef, undef, undef, undef, undef, undef, undef, undef, undef, undef, undef, undef, undef, undef, undef, _, _, _, _, _, _, _, _, _])) ?_
    intro s
    dsimp only
    obtain ⟨u0, u1⟩ := b7.c2
    go_wp2_with fail
    refine (pubOwn_any (storeP x0 x1 x2 x3 x4 x5 x6 x7 x8 x9 x10 x11) (storeF x12 x13 x14 x15 x16 x17) (by simp [storeP]) (by simp [storeP]) (by simp [storeF]) (by simp [storeF]) _ _ _ _ U (rp) (rf)).mono ?_
    rintro e w1 ⟨a, ac, g, gc, rfl, h1, r1, r2, _, _⟩
    clear u0 u1
    go_wp2_with fail
    refine (pubSingle_any _).mono ?_
    rintro e w2 ⟨a', ac', g', gc', rfl, h2, r3, r4, _, _⟩
    go_wp2_with fail
    refine (measureF_ok (storeP x0 x1 x2 x3 x4 x5 x6 x7 x8 x9 x10 x11) (storeF x12 x13 x14 x15 x16 x17) [0, 1, 2] [0] _ _ _ _ _ _ _ _ w2 (r1.grow h2) (r2.grow h2) r3 r4 HM1.out).mono ?_
    rintro e w3 ⟨rfl, h3⟩
    clear r1 r2 r3 r4
    go_upto_region 3 with fail
    refine wp_abs (fun V => Gr U V ∧ Box V w3.heap.size [.int .i64 (moistL false (storeP x0 x1 x2 x3 x4 x5 x6 x7 x8 x9 x10 x11) (storeF x12 x13 x14 x15 x16 x17) [0, 1, 2] [0]), .int .i64 (moistL true (storeP x0 x1 x2 x3 x4 x5 x6 x7 x8 x9 x10 x11) (storeF x12 x13 x14 x15 x16 x17) [0, 1, 2] [0])] ∧ Box V (w3.heap.size + 1) [.int .i64 (thickL false (storeP x0 x1 x2 x3 x4 x5 x6 x7 x8 x9 x10 x11) (storeF x12 x13 x14 x15 x16 x17) [0, 1, 2] [0]), .int .i64 (thickL true (storeP x0 x1 x2 x3 x4 x5 x6 x7 x8 x9 x10 x11) (storeF x12 x13 x14 x15 x16 x17) [0, 1, 2] [0])]) ⟨((h1.tr (h2.tr h3)).tr (Gr.al _ _)).tr (Gr.al _ _), (Box.new _ [.int .i64 (moistL false (storeP x0 x1 x2 x3 x4 x5 x6 x7 x8 x9 x10 x11) (storeF x12 x13 x14 x15 x16 x17) [0, 1, 2] [0]), .int .i64 (moistL true (storeP x0 x1 x2 x3 x4 x5 x6 x7 x8 x9 x10 x11) (storeF x12 x13 x14 x15 x16 x17) [0, 1, 2] [0])] 43 w3.heap.size rfl).keep (Gr.al _ _), Box.new _ [.int .i64 (thickL false (storeP x0 x1 x2 x3 x4 x5 x6 x7 x8 x9 x10 x11) (storeF x12 x13 x14 x15 x16 x17) [0, 1, 2] [0]), .int .i64 (thickL true (storeP x0 x1 x2 x3 x4 x5 x6 x7 x8 x9 x10 x11) (storeF x12 x13 x14 x15 x16 x17) [0, 1, 2] [0])] 43 (w3.heap.size + 1) (by simp)⟩ ?_
    generalize w3.heap.size = M1
    clear h1 h2 h3
    rintro V ⟨gV, bm1, bk1⟩
    refine (show (∀ s : Nat → Value, Code.wp Try.prog _ _ ⟨#[s 0, s 1, .slice td truth.length tcap, s 3, s 4, s 5, .bool false, .pointer (some ⟨B7, 0, none⟩), .pointer (some ⟨B8, 0, none⟩), .pointer (some ⟨B9, 0, none⟩), .pointer (some ⟨M1, 0, none⟩), .pointer (some ⟨M1 + 1, 0, none⟩), .int .i64 0, undef, undef, undef, undef, undef, undef, undef, undef, undef, undef, undef, undef, undef, undef, undef, undef, undef, undef, s 31, s 32, s 33, s 34, s 35, s 36, s 37, s 38, s 39, s 40, s 41, s 42, s 43, s 44, s 45, s 46, s 47, undef, undef, undef, undef, undef, undef, undef, undef, undef, undef, undef, undef, undef, undef, undef, undef, undef, undef, undef, undef, undef, undef, undef, undef, undef, undef, undef, undef, undef, undef, undef, undef, undef, undef, undef, undef, undef, undef, undef, undef, undef, undef, undef, undef, undef, undef, undef, undef, undef, undef, undef, undef, undef, undef, undef, undef, undef, undef, undef, undef, undef, undef, undef, undef, undef, undef, undef, undef, undef, undef, undef, undef, undef, undef, undef, undef, undef, undef, undef, undef, undef, undef, undef, undef, undef, undef, undef, undef, undef, undef, undef, undef, undef, undef, undef, undef, undef, undef, undef, undef, undef, undef, undef, undef, undef, undef, undef, undef, undef, undef, undef, undef, undef, undef, undef, undef, undef, undef, undef, undef, undef, undef, undef, undef, undef, undef, undef, undef, undef, undef, undef, undef, undef, undef, undef, undef, undef, undef, undef, undef, undef, undef, undef, undef, undef, undef, undef, undef, undef, undef, undef, undef, undef, undef, undef, undef, undef, undef, undef, undef, undef, undef, undef], []⟩ _) → _ from fun h => h ((fun l : List Value => fun i => l.getD i undef) [_, _, undef, _, _, _, undef, undef, undef, undef, undef, undef, undef, undef, undef, undef, undef, undef, undef, undef, undef, undef, undef, undef, undef, undef, undef, undef, undef, undef, undef, _, _, _, _, _, _, _, _, _, _, _, _, _, _, _, _, _])) ?_
    intro s
    dsimp only
    obtain ⟨u0, u1⟩ := (b7.keep gV).c2
    go_wp2_with fail
    refine (pubOwn_any (storeP x0 x1 x2 x3 x4 x5 x6 x7 x8 x9 x10 x11) (storeF x12 x13 x14 x15 x16 x17) (by simp [storeP]) (by simp [storeP]) (by simp [storeF]) (by simp [storeF]) _ _ _ _ V (rp.grow gV) (rf.grow gV)).mono ?_
    rintro e w1 ⟨a, ac, g, gc, rfl, h1, r1, r2, _, _⟩
    clear u0 u1
    go_wp2_with fail
    refine (pubDouble_any _).mono ?_
    rintro e w2 ⟨a', ac', g', gc', rfl, h2, r3, r4, _, _⟩
    go_wp2_with fail
    refine (measureF_ok (storeP x0 x1 x2 x3 x4 x5 x6 x7 x8 x9 x10 x11) (storeF x12 x13 x14 x15 x16 x17) [0, 1, 2, 1, 0] [0, 1] _ _ _ _ _ _ _ _ w2 (r1.grow h2) (r2.grow h2) r3 r4 HM2.out).mono ?_
    rintro e w3 ⟨rfl, h3⟩
    clear r1 r2 r3 r4
    go_upto_region 4 with fail
    refine wp_abs (fun X => Gr V X ∧ Box X w3.heap.size [.int .i64 (moistL false (storeP x0 x1 x2 x3 x4 x5 x6 x7 x8 x9 x10 x11) (storeF x12 x13 x14 x15 x16 x17) [0, 1, 2, 1, 0] [0, 1]), .int .i64 (moistL true (storeP x0 x1 x2 x3 x4 x5 x6 x7 x8 x9 x10 x11) (storeF x12 x13 x14 x15 x16 x17) [0, 1, 2, 1, 0] [0, 1])] ∧ Box X (w3.heap.size + 1) [.int .i64 (thickL false (storeP x0 x1 x2 x3 x4 x5 x6 x7 x8 x9 x10 x11) (storeF x12 x13 x14 x15 x16 x17) [0, 1, 2, 1, 0] [0, 1]), .int .i64 (thickL true (storeP x0 x1 x2 x3 x4 x5 x6 x7 x8 x9 x10 x11) (storeF x12 x13 x14 x15 x16 x17) [0, 1, 2, 1, 0] [0, 1])]) ⟨((h1.tr (h2.tr h3)).tr (Gr.al _ _)).tr (Gr.al _ _), (Box.new _ [.int .i64 (moistL false (storeP x0 x1 x2 x3 x4 x5 x6 x7 x8 x9 x10 x11) (storeF x12 x13 x14 x15 x16 x17) [0, 1, 2, 1, 0] [0, 1]), .int .i64 (moistL true (storeP x0 x1 x2 x3 x4 x5 x6 x7 x8 x9 x10 x11) (storeF x12 x13 x14 x15 x16 x17) [0, 1, 2, 1, 0] [0, 1])] 43 w3.heap.size rfl).keep (Gr.al _ _), Box.new _ [.int .i64 (thickL false (storeP x0 x1 x2 x3 x4 x5 x6 x7 x8 x9 x10 x11) (storeF x12 x13 x14 x15 x16 x17) [0, 1, 2, 1, 0] [0, 1]), .int .i64 (thickL true (storeP x0 x1 x2 x3 x4 x5 x6 x7 x8 x9 x10 x11) (storeF x12 x13 x14 x15 x16 x17) [0, 1, 2, 1, 0] [0, 1])] 43 (w3.heap.size + 1) (by simp)⟩ ?_
    generalize w3.heap.size = M2
    clear h1 h2 h3
    rintro X ⟨gX0, bm2, bk2⟩
    have gUX := gV.tr gX0
    have ht := ht.grow gU
    have b7 := b7.keep gUX
    have b8 := b8.keep gUX
    have b9 := b9.keep gUX
    have rp := rp.grow gUX
    have rf := rf.grow gUX
    have rpa := rpa.grow gUX
    have rta := rta.grow gUX
    have rba := rba.grow gUX
    have rpa1 := rpa1.grow gUX
    have rta1 := rta1.grow gUX
    have rba1 := rba1.grow gUX
    have ht := ht.grow gUX
    have bk1 := bk1.keep gX0
    have gU := gU.tr gUX
    clear gUX gV gX0 bm1 bm2 H0 H1
    obtain ⟨cl1, Ecl1⟩ : ∃ n, Hid (n = (thickL false (storeP x0 x1 x2 x3 x4 x5 x6 x7 x8 x9 x10 x11) (storeF x12 x13 x14 x15 x16 x17) [0, 1, 2] [0])) := ⟨_, Lib.hid rfl⟩
    rw [← Ecl1.out] at bk1 HK1
    obtain ⟨ch1, Ech1⟩ : ∃ n, Hid (n = (thickL true (storeP x0 x1 x2 x3 x4 x5 x6 x7 x8 x9 x10 x11) (storeF x12 x13 x14 x15 x16 x17) [0, 1, 2] [0])) := ⟨_, Lib.hid rfl⟩
    rw [← Ech1.out] at bk1 HK1
    obtain ⟨cl2, Ecl2⟩ : ∃ n, Hid (n = (thickL false (storeP x0 x1 x2 x3 x4 x5 x6 x7 x8 x9 x10 x11) (storeF x12 x13 x14 x15 x16 x17) [0, 1, 2, 1, 0] [0, 1])) := ⟨_, Lib.hid rfl⟩
    rw [← Ecl2.out] at bk2 HK2
    obtain ⟨ch2, Ech2⟩ : ∃ n, Hid (n = (thickL true (storeP x0 x1 x2 x3 x4 x5 x6 x7 x8 x9 x10 x11) (storeF x12 x13 x14 x15 x16 x17) [0, 1, 2, 1, 0] [0, 1])) := ⟨_, Lib.hid rfl⟩
    rw [← Ech2.out] at bk2 HK2
    refine (show (∀ s : Nat → Value, Code.wp Try.prog _ _ ⟨#[s 0, s 1, .slice td truth.length tcap, s 3, s 4, s 5, .bool false, .pointer (some ⟨B7, 0, none⟩), .pointer (some ⟨B8, 0, none⟩), .pointer (some ⟨B9, 0, none⟩), .pointer (some ⟨M1, 0, none⟩), .pointer (some ⟨M1 + 1, 0, none⟩), .int .i64 0, .pointer (some ⟨M2, 0, none⟩), .pointer (some ⟨M2 + 1, 0, none⟩), .int .i64 0, undef, undef, undef, undef, undef, undef, undef, undef, undef, undef, undef, undef, undef, undef, undef, s 31, s 32, s 33, s 34, s 35, s 36, s 37, s 38, s 39, s 40, s 41, s 42, s 43, s 44, s 45, s 46, s 47, s 48, s 49, s 50, s 51, s 52, s 53, s 54, s 55, undef, undef, undef, undef, undef, undef, undef, undef, undef, undef, undef, undef, undef, undef, undef, undef, undef, undef, undef, undef, undef, undef, undef, undef, undef, undef, undef, undef, undef, undef, undef, undef, undef, undef, undef, undef, undef, undef, undef, undef, undef, undef, undef, undef, undef, undef, undef, undef, undef, undef, undef, undef, undef, undef, undef, undef, undef, undef, undef, undef, undef, undef, undef, undef, undef, undef, undef, undef, undef, undef, undef, undef, undef, undef, undef, undef, undef, undef, undef, undef, undef, undef, undef, undef, undef, undef, undef, undef, undef, undef, undef, undef, undef, undef, undef, undef, undef, undef, undef, undef, undef, undef, undef, undef, undef, undef, undef, undef, undef, undef, undef, undef, undef, undef, undef, undef, undef, undef, undef, undef, undef, undef, undef, undef, undef, undef, undef, undef, undef, undef, undef, undef, undef, undef, undef, undef, undef, undef, undef, undef, undef, undef, undef, undef, undef, undef, undef, undef, undef, undef, undef, undef, undef, undef, undef], []⟩ _) → _ from fun h => h ((fun l : List Value => fun i => l.getD i undef) [_, _, undef, _, _, _, undef, undef, undef, undef, undef, undef, undef, undef, undef, undef, undef, undef, undef, undef, undef, undef, undef, undef, undef, undef, undef, undef, undef, undef, undef, _, _, _, _, _, _, _, _, _, _, _, _, _, _, _, _, _, _, _, _, _, _, _, _, _])) ?_
    intro s
    dsimp only
    have gX := Gr.dr X
    obtain ⟨e0, e1, e2, e3, e4, e5, e6⟩ := (b8.keep gX).c7
    obtain ⟨j0, j1, j2, j3, j4, j5, j6⟩ := (b9.keep gX).c7
    obtain ⟨q0, q1⟩ := (bk1.keep gX).c2
    obtain ⟨z0, z1⟩ := (bk2.keep gX).c2
    have tok1 : True := trivial
    go_region_held3 (fun w' => w'.cell? ⟨B8, 0, none⟩ = some (.int .i64 (x20 % 50)) ∧ w'.cell? ⟨B8, 1, none⟩ = some (.slice pa (bxPan x18 x19 m).length pc) ∧ w'.cell? ⟨B8, 2, none⟩ = some (.int .i64 (40 + x21 + m)) ∧ w'.cell? ⟨B8, 3, none⟩ = some (.slice ta (bxTop x19 x22).length tc) ∧ w'.cell? ⟨B8, 4, none⟩ = some (.slice ba (bxBot x19 x22 x23).length bc) ∧ w'.cell? ⟨B8, 5, none⟩ = some (.int .i64 (x24 % 21)) ∧ w'.cell? ⟨B8, 6, none⟩ = some (.bool false) ∧ w'.cell? ⟨B9, 0, none⟩ = some (.int .i64 (x20 % 50)) ∧ w'.cell? ⟨B9, 1, none⟩ = some (.slice pa1 (bxPan x18 x19 0).length pc1) ∧ w'.cell? ⟨B9, 2, none⟩ = some (.int .i64 (40 + x21)) ∧ w'.cell? ⟨B9, 3, none⟩ = some (.slice ta1 (bxTop x19 x22).length tc1) ∧ w'.cell? ⟨B9, 4, none⟩ = some (.slice ba1 (bxBot x19 x22 x23).length bc1) ∧ w'.cell? ⟨B9, 5, none⟩ = some (.int .i64 (x24 % 21)) ∧ w'.cell? ⟨B9, 6, none⟩ = some (.bool false) ∧ w'.cell? ⟨(M1 + 1), 0, none⟩ = some (.int .i64 cl1) ∧ w'.cell? ⟨(M1 + 1), 1, none⟩ = some (.int .i64 ch1) ∧ w'.cell? ⟨(M2 + 1), 0, none⟩ = some (.int .i64 cl2) ∧ w'.cell? ⟨(M2 + 1), 1, none⟩ = some (.int .i64 ch2)) (first | exact ⟨e0, e1, e2, e3, e4, e5, e6, j0, j1, j2, j3, j4, j5, j6, q0, q1, z0, z1⟩ | go_keep) (first
      | (go_at_call 13; have _t := tok1; (refine (pubBlank_any _ _ _ _ _ _ _ _ _ _ _ _ _ (by simp [bxPan]) (by simp [bxPan]) (by simp [bxTop]) (by simp [bxTop]) (by simp [bxBot]) (by simp [bxBot]) _ (rpa.grow gX) (rta.grow gX) (rba.grow gX)).mono ?_); clear tok1 _t; rintro e w2 ⟨p, pc_, t, tc_, b, bc_, rfl, hy, hr1, hr2, hr3, _, _, _⟩; replace gX := gX.tr hy; (obtain ⟨e0, e1, e2, e3, e4, e5, e6⟩ := (b8.keep gX).c7); (obtain ⟨j0, j1, j2, j3, j4, j5, j6⟩ := (b9.keep gX).c7); (obtain ⟨q0, q1⟩ := (bk1.keep gX).c2); (obtain ⟨z0, z1⟩ := (bk2.keep gX).c2))
      | (go_at_call 13; (refine (pubBlank_any _ _ _ _ _ _ _ _ _ _ _ _ _ (by simp [bxPan]) (by simp [bxPan]) (by simp [bxTop]) (by simp [bxTop]) (by simp [bxBot]) (by simp [bxBot]) _ (rpa1.grow gX) (rta1.grow gX) (rba1.grow gX)).mono ?_); rintro e w4 ⟨p', pc_', t', tc_', b', bc_', rfl, hy', hr4, hr5, hr6, _, _, _⟩; replace gX := gX.tr hy'; have hr1 := hr1.grow hy'; have hr2 := hr2.grow hy'; have hr3 := hr3.grow hy'; (obtain ⟨e0, e1, e2, e3, e4, e5, e6⟩ := (b8.keep gX).c7); (obtain ⟨j0, j1, j2, j3, j4, j5, j6⟩ := (b9.keep gX).c7); (obtain ⟨q0, q1⟩ := (bk1.keep gX).c2); (obtain ⟨z0, z1⟩ := (bk2.keep gX).c2))
      | (go_at_call 19; (refine (play_four _ _ _ _ _ _ _ _ _ _ _ _ _ _ _ _ _ _ _ _ _ _ _ _ _ _ _ _ _ _ HGL.out HGB.out HK1.out HK2.out _ hr1 hr2 hr3 hr4 hr5 hr6).mono ?_); rintro e w3 ⟨la, lc, rfl, hz, hl⟩; replace gX := gX.tr hz; (obtain ⟨e0, e1, e2, e3, e4, e5, e6⟩ := (b8.keep gX).c7); (obtain ⟨j0, j1, j2, j3, j4, j5, j6⟩ := (b9.keep gX).c7); (obtain ⟨q0, q1⟩ := (bk1.keep gX).c2); (obtain ⟨z0, z1⟩ := (bk2.keep gX).c2)))
    clear e0 e1 e2 e3 e4 e5 e6 j0 j1 j2 j3 j4 j5 j6 q0 q1 z0 z1 hr1 hr2 hr3 hr4 hr5 hr6 hy hy' hz
    go_upto_region 7 with fail
    have b7 := b7.keep gX
    have b8 := b8.keep gX
    have b9 := b9.keep gX
    have rp := rp.grow gX
    have rf := rf.grow gX
    have rpa := rpa.grow gX
    have rta := rta.grow gX
    have rba := rba.grow gX
    have rpa1 := rpa1.grow gX
    have rta1 := rta1.grow gX
    have rba1 := rba1.grow gX
    have ht := ht.grow gX
    have bk1 := bk1.keep gX
    have bk2 := bk2.keep gX
    have gU := gU.tr gX
    clear gX
    refine (show (∀ s : Nat → Value, Code.wp Try.prog _ _ ⟨#[s 0, s 1, .slice td truth.length tcap, s 3, s 4, s 5, .bool false, .pointer (some ⟨B7, 0, none⟩), .pointer (some ⟨B8, 0, none⟩), .pointer (some ⟨B9, 0, none⟩), s 10, .pointer (some ⟨M1 + 1, 0, none⟩), s 12, s 13, .pointer (some ⟨M2 + 1, 0, none⟩), s 15, .slice la 4 lc, s 17, undef, undef, undef, undef, undef, undef, undef, undef, undef, undef, undef, undef, undef, s 31, s 32, s 33, s 34, s 35, s 36, s 37, s 38, s 39, s 40, s 41, s 42, s 43, s 44, s 45, s 46, s 47, s 48, s 49, s 50, s 51, s 52, s 53, s 54, s 55, s 56, s 57, s 58, s 59, s 60, s 61, s 62, s 63, s 64, s 65, s 66, s 67, s 68, s 69, s 70, s 71, s 72, s 73, s 74, s 75, s 76, s 77, s 78, s 79, s 80, undef, undef, undef, undef, undef, undef, undef, undef, undef, undef, undef, undef, undef, undef, undef, undef, undef, undef, undef, undef, undef, undef, undef, undef, undef, undef, undef, undef, undef, undef, undef, undef, undef, undef, undef, undef, undef, undef, undef, undef, undef, undef, undef, undef, undef, undef, undef, undef, undef, undef, undef, undef, undef, undef, undef, undef, undef, undef, undef, undef, undef, undef, undef, undef, undef, undef, undef, undef, undef, undef, undef, undef, undef, undef, undef, undef, undef, undef, undef, undef, undef, undef, undef, undef, undef, undef, undef, undef, undef, undef, undef, undef, undef, undef, undef, undef, undef, undef, undef, undef, undef, undef, undef, undef, undef, undef, undef, undef, undef, undef, undef, undef, undef, undef, undef, undef, undef, undef, undef, undef, undef, undef, undef, undef, undef, undef, undef, undef, undef, undef], []⟩ _) → _ from fun h => h ((fun l : List Value => fun i => l.getD i undef) [_, _, undef, _, _, _, undef, undef, undef, undef, _, undef, _, _, undef, _, undef, _, undef, undef, undef, undef, undef, undef, undef, undef, undef, undef, undef, undef, undef, _, _, _, _, _, _, _, _, _, _, _, _, _, _, _, _, _, _, _, _, _, _, _, _, _, _, _, _, _, _, _, _, _, _, _, _, _, _, _, _, _, _, _, _, _, _, _, _, _, _])) ?_
    intro s
    dsimp only
    have gX := Gr.dr w3
    obtain ⟨u0, u1⟩ := (b7.keep gX).c2
    have tok2 : True := trivial
    go_region_held3 (fun w' => w'.cell? ⟨B7, 0, none⟩ = some (.slice a1 (storeP x0 x1 x2 x3 x4 x5 x6 x7 x8 x9 x10 x11).length ac1) ∧ w'.cell? ⟨B7, 1, none⟩ = some (.slice g1 (storeF x12 x13 x14 x15 x16 x17).length gc1)) (first | exact ⟨u0, u1⟩ | go_keep) (first
      | (go_at_call 7; (refine (pubSingle_any _).mono ?_); rintro e w1 ⟨sa, sac, sg, sgc, rfl, h1, r1, r2, _, _⟩; replace gX := gX.tr h1; (obtain ⟨u0, u1⟩ := (b7.keep gX).c2))
      | (go_at_call 14; have _t := tok2; (refine (pubCaliper_any (storeP x0 x1 x2 x3 x4 x5 x6 x7 x8 x9 x10 x11) (storeF x12 x13 x14 x15 x16 x17) [0, 1, 2] [0] truth (fine_of_made HM1.out) hT _ _ _ _ _ _ _ _ _ _ _ (rp.grow gX) (rf.grow gX) r1 r2 (ht.grow gX)).mono ?_); clear tok2 _t; rintro e w2 ⟨rfl, h2⟩; replace gX := gX.tr h2; (obtain ⟨u0, u1⟩ := (b7.keep gX).c2))
      | (go_at_call 18; (refine (pubDouble_any _).mono ?_); rintro e w4 ⟨da, dac, dg, dgc, rfl, h3, r3, r4, _, _⟩; replace gX := gX.tr h3; (obtain ⟨u0, u1⟩ := (b7.keep gX).c2))
      | (go_at_call 14; (refine (pubCaliper_any (storeP x0 x1 x2 x3 x4 x5 x6 x7 x8 x9 x10 x11) (storeF x12 x13 x14 x15 x16 x17) [0, 1, 2, 1, 0] [0, 1] truth (fine_of_made HM2.out) hT _ _ _ _ _ _ _ _ _ _ _ (rp.grow gX) (rf.grow gX) r3 r4 (ht.grow gX)).mono ?_); rintro e w5 ⟨rfl, h4⟩; replace gX := gX.tr h4; (obtain ⟨u0, u1⟩ := (b7.keep gX).c2)))
    clear u0 u1 r1 r2 r3 r4 h1 h2 h3 h4
    have hva := cal_bd (fine_of_made HM1.out) hT
    have hvb := cal_bd (fine_of_made HM2.out) hT
    rw [← Ecl1.out, ← Ech1.out] at hva
    rw [← Ecl2.out, ← Ech2.out] at hvb
    generalize calL (storeP x0 x1 x2 x3 x4 x5 x6 x7 x8 x9 x10 x11) (storeF x12 x13 x14 x15 x16 x17) [0, 1, 2] [0] truth = va at hva ⊢
    generalize calL (storeP x0 x1 x2 x3 x4 x5 x6 x7 x8 x9 x10 x11) (storeF x12 x13 x14 x15 x16 x17) [0, 1, 2, 1, 0] [0, 1] truth = vb at hvb ⊢
    have b8 := b8.keep gX
    have b9 := b9.keep gX
    have rpa := rpa.grow gX
    have rta := rta.grow gX
    have rba := rba.grow gX
    have rpa1 := rpa1.grow gX
    have rta1 := rta1.grow gX
    have rba1 := rba1.grow gX
    have bk1 := bk1.keep gX
    have bk2 := bk2.keep gX
    have hl := hl.grow gX
    have gU := gU.tr gX
    clear gX b7 rp rf HM1 HM2 hT ht Ecl1 Ech1 Ecl2 Ech2
    go_wp2_with fail
    refine (show (∀ s : Nat → Value, Code.wp Try.prog _ _ ⟨#[s 0, s 1, s 2, s 3, s 4, s 5, .bool false, s 7, .pointer (some ⟨B8, 0, none⟩), .pointer (some ⟨B9, 0, none⟩), s 10, .pointer (some ⟨M1 + 1, 0, none⟩), s 12, s 13, .pointer (some ⟨M2 + 1, 0, none⟩), s 15, .slice la 4 lc, s 17, .int .i64 va, .int .i64 vb, .bool true, .int .i64 0, undef, undef, undef, undef, undef, undef, undef, undef, undef, s 31, s 32, s 33, s 34, s 35, s 36, s 37, s 38, s 39, s 40, s 41, s 42, s 43, s 44, s 45, s 46, s 47, s 48, s 49, s 50, s 51, s 52, s 53, s 54, s 55, s 56, s 57, s 58, s 59, s 60, s 61, s 62, s 63, s 64, s 65, s 66, s 67, s 68, s 69, s 70, s 71, s 72, s 73, s 74, s 75, s 76, s 77, s 78, s 79, s 80, s 81, s 82, s 83, s 84, s 85, s 86, s 87, s 88, undef, undef, undef, undef, undef, undef, undef, undef, undef, undef, undef, undef, undef, undef, undef, undef, undef, undef, undef, undef, undef, undef, undef, undef, undef, undef, undef, undef, undef, undef, undef, undef, undef, undef, undef, undef, undef, undef, undef, undef, undef, undef, undef, undef, undef, undef, undef, undef, undef, undef, undef, undef, undef, undef, undef, undef, undef, undef, undef, undef, undef, undef, undef, undef, undef, undef, undef, undef, undef, undef, undef, undef, undef, undef, undef, undef, undef, undef, undef, undef, undef, undef, undef, undef, undef, undef, undef, undef, undef, undef, undef, undef, undef, undef, undef, undef, undef, undef, undef, undef, undef, undef, undef, undef, undef, undef, undef, undef, undef, undef, undef, undef, undef, undef, undef, undef, undef, undef, undef, undef, undef, undef], []⟩ _) → _ from fun h => h ((fun l : List Value => fun i => l.getD i undef) [_, _, _, _, _, _, undef, _, undef, undef, _, undef, _, _, undef, _, undef, _, undef, undef, undef, undef, undef, undef, undef, undef, undef, undef, undef, undef, undef, _, _, _, _, _, _, _, _, _, _, _, _, _, _, _, _, _, _, _, _, _, _, _, _, _, _, _, _, _, _, _, _, _, _, _, _, _, _, _, _, _, _, _, _, _, _, _, _, _, _, _, _, _, _, _, _, _, _])) ?_
    intro s
    dsimp only
    go_loopw [21, 20] (fun i l wr => Hid (∃ j : Nat, j ≤ 4 ∧ i = .int .i64 j ∧ l = .bool (looseB (playL (40 + x21 + m) (bxPan x18 x19 m) (bxTop x19 x22) (bxBot x19 x22 x23) false cl1 ch1 (40 + x21) (bxPan x18 x19 0) (bxTop x19 x22) (bxBot x19 x22 x23) false cl2 ch2 j)) ∧ Gr w5 wr)) (fun i l wr => 4 - (intOf i).toNat)
    case atStart => exact Lib.hid ⟨0, by omega, rfl, rfl, Below.refl _ _⟩
    case round =>
      obtain ⟨j, hj, rfl, rfl, gJ⟩ := hrel.out
      clear hrel
      have cb1 := okSpan_four HK1.out
      have cb2 := okSpan_four HK2.out
      by_cases hlt : j < 4
      · obtain ⟨p, hpl⟩ := get_of_lt (show j < (bxPan x18 x19 m).length by simp [bxPan]; omega)
        obtain ⟨p', hpb⟩ := get_of_lt (show j < (bxPan x18 x19 0).length by simp [bxPan]; omega)
        have hpa := play_at HGL.out HGB.out cl1 ch1 cl2 ch2 hlt hpl hpb
        obtain ⟨pb0, pb1⟩ := in_at HGL.out.gpan hpl
        obtain ⟨pb2, pb3⟩ := in_at HGB.out.gpan hpb
        have hlj : (playL (40 + x21 + m) (bxPan x18 x19 m) (bxTop x19 x22) (bxBot x19 x22 x23) false cl1 ch1 (40 + x21) (bxPan x18 x19 0) (bxTop x19 x22) (bxBot x19 x22 x23) false cl2 ch2 4)[j]? = some (playAt (40 + x21 + m) (bxPan x18 x19 m) (bxTop x19 x22) (bxBot x19 x22 x23) false cl1 ch1 (40 + x21) (bxPan x18 x19 0) (bxTop x19 x22) (bxBot x19 x22 x23) false cl2 ch2 j) := by simp [playL, hlt]
        obtain ⟨bl, ol, rfl, _, s0, s1⟩ := SRow.get (hl.grow gJ) hlj
        rw [hpa] at s0 s1
        obtain ⟨bq, oq, rfl, _, c0⟩ := IRow.get (rpa.grow gJ) hpl
        obtain ⟨br, or', rfl, _, c1⟩ := IRow.get (rpa1.grow gJ) hpb
        have e1 : wr.cell? ⟨B8, 1, none⟩ = some (.slice (some ⟨bq, oq, none⟩) 4 pc) := (b8.keep gJ).2 1 _ rfl
        have e2 : wr.cell? ⟨B9, 1, none⟩ = some (.slice (some ⟨br, or', none⟩) 4 pc1) := (b9.keep gJ).2 1 _ rfl
        have hjI : (j : Int) < 4 := by omega
        have hn : looseB (playL (40 + x21 + m) (bxPan x18 x19 m) (bxTop x19 x22) (bxBot x19 x22 x23) false cl1 ch1 (40 + x21) (bxPan x18 x19 0) (bxTop x19 x22) (bxBot x19 x22 x23) false cl2 ch2 (j + 1)) = (looseB (playL (40 + x21 + m) (bxPan x18 x19 m) (bxTop x19 x22) (bxBot x19 x22 x23) false cl1 ch1 (40 + x21) (bxPan x18 x19 0) (bxTop x19 x22) (bxBot x19 x22 x23) false cl2 ch2 j) && decide (0 ≤ 1000 * p - ch1 - 1000 * p' - ch2)) := by
          unfold playL
          rw [List.range_succ, List.map_append, List.map_singleton, loose_snoc, hpa]
        have Hn := Lib.hid hn
        have hin : in1 (1000 * p - ch1 - 1000 * p' - ch2) (1000 * p - cl1 - 1000 * p' - cl2) (1000 * p - va - (1000 * p' + vb)) = true := by
          simp only [in1, Bool.and_eq_true, decide_eq_true_eq]
          omega
        have Hin := Lib.hid hin
        clear hpl hpb hpa hlj hn hin hl
        dsimp only at s0 s1
        go_upto_region 12 with fail
        have x0_ := From.keep e1
        have x1_ := From.keep e2
        have x2_ := From.keep c0
        have x3_ := From.keep c1
        refine wp_region_gr (by kernel_rfl) (by kernel_rfl) ?_
        repeat (go_big_quiet_step (fail))
        refine wpQuiet_nil ?_
        rintro _ ⟨u, rfl⟩
        clear x0_ x1_ x2_ x3_ e1 e2 c0 c1
        have gK := u.property
        have t0_ := gK.keep s0
        have t1_ := gK.keep s1
        go_upto_region 15 with (go_at_call 15; (refine (pubHas_any _ _ _ true Hin.out _).mono ?_); rintro e w6 ⟨rfl, h6⟩)
        have gL := gK.tr h6
        clear t0_ t1_
        have t0_ := gL.keep s0
        cases hq : looseB (playL (40 + x21 + m) (bxPan x18 x19 m) (bxTop x19 x22) (bxBot x19 x22 x23) false cl1 ch1 (40 + x21) (bxPan x18 x19 0) (bxTop x19 x22) (bxBot x19 x22 x23) false cl2 ch2 j) with
        | true =>
          have hn2 : looseB (playL (40 + x21 + m) (bxPan x18 x19 m) (bxTop x19 x22) (bxBot x19 x22 x23) false cl1 ch1 (40 + x21) (bxPan x18 x19 0) (bxTop x19 x22) (bxBot x19 x22 x23) false cl2 ch2 (j + 1)) = decide (0 ≤ 1000 * p - ch1 - 1000 * p' - ch2) := by rw [Hn.out, hq]; rfl
          have Hn2 := Lib.hid hn2
          clear hn2 Hn
          have Hq := Lib.hid hq
          clear hq
          go_wp2_with fail
          go_roundw
          case rel => first
            | exact Lib.hid ⟨j + 1, by omega, by go_num, (by first | (rw [Hn2.out]; done) | (rw [Hn2.out]; exact congrArg Value.bool (decide_eq_decide.2 (by omega)))), gJ.tr gL⟩
            | exact Lib.hid ⟨j + 1, by omega, rfl, (by first | (rw [Hn2.out]; done) | (rw [Hn2.out]; exact congrArg Value.bool (decide_eq_decide.2 (by omega)))), gJ.tr gL⟩
          case measure => simp [intOf]; omega
        | false =>
          have hn2 : looseB (playL (40 + x21 + m) (bxPan x18 x19 m) (bxTop x19 x22) (bxBot x19 x22 x23) false cl1 ch1 (40 + x21) (bxPan x18 x19 0) (bxTop x19 x22) (bxBot x19 x22 x23) false cl2 ch2 (j + 1)) = false := by rw [Hn.out, hq]; rfl
          have Hn2 := Lib.hid hn2
          clear hn2 Hn
          have Hq := Lib.hid hq
          clear hq
          go_wp2_with fail
          go_roundw
          case rel => first
            | exact Lib.hid ⟨j + 1, by omega, by go_num, (by first | (rw [Hn2.out]; done) | (rw [Hn2.out]; exact congrArg Value.bool (decide_eq_decide.2 (by omega)))), gJ.tr gL⟩
            | exact Lib.hid ⟨j + 1, by omega, rfl, (by first | (rw [Hn2.out]; done) | (rw [Hn2.out]; exact congrArg Value.bool (decide_eq_decide.2 (by omega)))), gJ.tr gL⟩
          case measure => simp [intOf]; omega
      · obtain rfl : j = 4 := by omega
        skip
        obtain ⟨l0, l1, l2⟩ := HLO.out
        obtain ⟨a0, a1⟩ := in_at HGB.out.gpan (k := 0) (x := bxLong x18 0) rfl
        obtain ⟨a2, a3⟩ := in_at HGB.out.gpan (k := 1) (x := bxWide x19 0) rfl
        obtain ⟨a4, a5⟩ := in_one HGB.out.ghei
        have qd0 : (1000 * bxLong x18 0 - cl2).tdiv 1000 = (1000 * bxLong x18 0 - cl2) / 1000 := Int.tdiv_eq_ediv_of_nonneg (by omega)
        have qd1 : (1000 * bxWide x19 0 - cl2).tdiv 1000 = (1000 * bxWide x19 0 - cl2) / 1000 := Int.tdiv_eq_ediv_of_nonneg (by omega)
        have qd2 : (1000 * (40 + x21) - 2 * cl2).tdiv 1000 = (1000 * (40 + x21) - 2 * cl2) / 1000 := Int.tdiv_eq_ediv_of_nonneg (by omega)
        obtain ⟨t0, et0⟩ : ∃ t0, t0 = (1000 * bxLong x18 0 - cl2) / 1000 := ⟨_, rfl⟩
        obtain ⟨t1, et1⟩ : ∃ t1, t1 = (1000 * bxWide x19 0 - cl2) / 1000 := ⟨_, rfl⟩
        obtain ⟨t2, et2⟩ : ∃ t2, t2 = (1000 * (40 + x21) - 2 * cl2) / 1000 := ⟨_, rfl⟩
        rw [← et0] at qd0
        rw [← et1] at qd1
        rw [← et2] at qd2
        have bt0 : 0 ≤ t0 ∧ t0 ≤ 3000 ∧ 1000 * t0 ≤ 1000 * bxLong x18 0 - cl2 := by omega
        have bt1 : 0 ≤ t1 ∧ t1 ≤ 3000 ∧ 1000 * t1 ≤ 1000 * bxWide x19 0 - cl2 := by omega
        have bt2 : 0 ≤ t2 ∧ t2 ≤ 3000 ∧ 1000 * t2 ≤ 1000 * (40 + x21) - 2 * cl2 := by omega
        have HB0 := Lib.hid bt0
        have HB1 := Lib.hid bt1
        have HB2 := Lib.hid bt2
        clear et0 et1 et2
        have bu0 : 0 ≤ t0 ∧ t0 ≤ 3000 := ⟨bt0.1, bt0.2.1⟩
        have bu1 : 0 ≤ t1 ∧ t1 ≤ 3000 := ⟨bt1.1, bt1.2.1⟩
        have bu2 : 0 ≤ t2 ∧ t2 ≤ 3000 := ⟨bt2.1, bt2.2.1⟩
        clear bt0 bt1 bt2
        have r1 : IRow wr pa1 [bxLong x18 0, bxWide x19 0, bxLong x18 0, bxWide x19 0] := rpa1.grow gJ
        have e1 : wr.cell? ⟨B9, 1, none⟩ = some (.slice pa1 4 pc1) := (b9.keep gJ).2 1 _ rfl
        have e2 : wr.cell? ⟨B9, 2, none⟩ = some (.int .i64 (40 + x21)) := (b9.keep gJ).2 2 _ rfl
        have e3 : wr.cell? ⟨M2 + 1, 0, none⟩ = some (.int .i64 cl2) := (bk2.keep gJ).2 0 _ rfl
        obtain ⟨bp, op, epa, c0, c1, _, _⟩ := r1.four
        rw [epa] at e1
        clear r1
        go_upto_region 16 with fail
        have x0_ := From.keep e1
        have x1_ := From.keep e2
        have x2_ := From.keep e3
        have x3_ := From.keep c0
        have x4_ := From.keep c1
        clear e1 e2 e3 c0 c1
        refine wp_region_reads (fun w' => ∃ u : From wr, w' = u.val) 26 (by kernel_rfl) (by kernel_rfl) (fun d _ _ _ _ h => by cases d <;> exact h) ⟨⟨wr.drew, Gr.dr wr⟩, rfl⟩ ?_
        simp only [List.take_succ_cons, List.take_zero]
        repeat (go_big_quiet_step (fail))
        refine wpQuiet_nil ?_
        clear x0_ x1_ x2_ x3_ x4_ qd0 qd1 qd2 epa
        refine wpOp_step rfl (fun K' hK => ?_)
        go_simp
        have gA := (Gr.al wr (.cells #[.int .i64 t0, .int .i64 t1, .int .i64 t2] 3)).tr (Gr.dr _)
        refine hK _ _ ⟨⟨⟨_, gA⟩, rfl⟩, ?_⟩
        have rA : IRow (wr.alloc (.cells #[.int .i64 t0, .int .i64 t1, .int .i64 t2] 3)).drew (some ⟨wr.heap.size, 0, none⟩) [t0, t1, t2] := (RowOf.lit (enc := encI) (sz := 1) (fun _ => rfl) wr 3 [t0, t1, t2] (by simp) _ (by rfl) wr.heap.size rfl).grow (Gr.dr _)
        clear hK bu0 bu1 bu2
        show wpList _ _ _ (List.drop 27 _) _ _
        simp only [List.drop_succ_cons, List.drop_zero]
        go_upto_region 17 with fail
        refine wp_abs (fun Y => Gr wr Y ∧ IRow Y (some ⟨wr.heap.size, 0, none⟩) [t0, t1, t2]) ⟨gA, rA⟩ ?_
        clear gA rA
        rintro Y ⟨gY, rt⟩
        have gZ := gJ.tr gY
        have gX := Gr.dr Y
        have HT3 : Hid (inB 0 3000 [t0, t1, t2] = true) := Lib.hid (by
          obtain ⟨p0, p1, _⟩ := HB0.out
          obtain ⟨p2, p3, _⟩ := HB1.out
          obtain ⟨p4, p5, _⟩ := HB2.out
          simp only [inB, in1, List.all_cons, List.all_nil, Bool.and_true, Bool.and_eq_true, decide_eq_true_eq]
          omega)
        obtain ⟨j0, j1, j2, j3, j4, j5, j6⟩ := (b9.keep (gZ.tr gX)).c7
        obtain ⟨q0, q1⟩ := (bk2.keep (gZ.tr gX)).c2
        go_region_held3 (fun w' => w'.cell? ⟨B9, 0, none⟩ = some (.int .i64 (x20 % 50)) ∧ w'.cell? ⟨B9, 1, none⟩ = some (.slice pa1 (bxPan x18 x19 0).length pc1) ∧ w'.cell? ⟨B9, 2, none⟩ = some (.int .i64 (40 + x21)) ∧ w'.cell? ⟨B9, 3, none⟩ = some (.slice ta1 (bxTop x19 x22).length tc1) ∧ w'.cell? ⟨B9, 4, none⟩ = some (.slice ba1 (bxBot x19 x22 x23).length bc1) ∧ w'.cell? ⟨B9, 5, none⟩ = some (.int .i64 (x24 % 21)) ∧ w'.cell? ⟨B9, 6, none⟩ = some (.bool false) ∧ w'.cell? ⟨(M2 + 1), 0, none⟩ = some (.int .i64 cl2) ∧ w'.cell? ⟨(M2 + 1), 1, none⟩ = some (.int .i64 ch2)) (first | exact ⟨j0, j1, j2, j3, j4, j5, j6, q0, q1⟩ | go_keep) (first
          | (go_at_call 13; (refine (pubBlank_any _ _ _ _ _ _ _ _ _ _ _ _ _ (by simp [bxPan]) (by simp [bxPan]) (by simp [bxTop]) (by simp [bxTop]) (by simp [bxBot]) (by simp [bxBot]) _ (rpa1.grow (gZ.tr gX)) (rta1.grow (gZ.tr gX)) (rba1.grow (gZ.tr gX))).mono ?_); rintro e w6 ⟨p, pc_, t, tc_, b, bc_, rfl, hy, hr1, hr2, hr3, _, _, _⟩; replace gX := gX.tr hy; (obtain ⟨j0, j1, j2, j3, j4, j5, j6⟩ := (b9.keep (gZ.tr gX)).c7); (obtain ⟨q0, q1⟩ := (bk2.keep (gZ.tr gX)).c2))
          | (go_at_call 21; (refine (pubInts_any [t0, t1, t2] (by simp) (by simp) _ _ _ (rt.grow gX)).mono ?_); rintro e w7 ⟨ia, ic, rfl, hi, hri, _⟩; have hr1 := hr1.grow hi; have hr2 := hr2.grow hi; have hr3 := hr3.grow hi; replace gX := gX.tr hi; (obtain ⟨j0, j1, j2, j3, j4, j5, j6⟩ := (b9.keep (gZ.tr gX)).c7); (obtain ⟨q0, q1⟩ := (bk2.keep (gZ.tr gX)).c2))
          | (go_at_call 20; (refine (holds_ok _ _ _ _ _ _ _ _ _ _ _ _ _ _ _ [t0, t1, t2] HGB.out HK2.out (by simp) HT3.out _ _ _ hr1 hr2 hr3 hri).mono ?_); rintro e w8 ⟨rfl, hh⟩; replace gX := gX.tr hh; (obtain ⟨j0, j1, j2, j3, j4, j5, j6⟩ := (b9.keep (gZ.tr gX)).c7); (obtain ⟨q0, q1⟩ := (bk2.keep (gZ.tr gX)).c2)))
        clear j0 j1 j2 j3 j4 j5 j6 q0 q1 hr1 hr2 hr3 hri hy hi hh
        go_upto_region 18 with fail
        have gZ := gZ.tr gX
        have rt := rt.grow gX
        clear gX
        have gX := Gr.dr w8
        obtain ⟨e0, e1, e2, e3, e4, e5, e6⟩ := (b8.keep (gZ.tr gX)).c7
        obtain ⟨q0, q1⟩ := (bk1.keep (gZ.tr gX)).c2
        go_region_held3 (fun w' => w'.cell? ⟨B8, 0, none⟩ = some (.int .i64 (x20 % 50)) ∧ w'.cell? ⟨B8, 1, none⟩ = some (.slice pa (bxPan x18 x19 m).length pc) ∧ w'.cell? ⟨B8, 2, none⟩ = some (.int .i64 (40 + x21 + m)) ∧ w'.cell? ⟨B8, 3, none⟩ = some (.slice ta (bxTop x19 x22).length tc) ∧ w'.cell? ⟨B8, 4, none⟩ = some (.slice ba (bxBot x19 x22 x23).length bc) ∧ w'.cell? ⟨B8, 5, none⟩ = some (.int .i64 (x24 % 21)) ∧ w'.cell? ⟨B8, 6, none⟩ = some (.bool false) ∧ w'.cell? ⟨(M1 + 1), 0, none⟩ = some (.int .i64 cl1) ∧ w'.cell? ⟨(M1 + 1), 1, none⟩ = some (.int .i64 ch1)) (first | exact ⟨e0, e1, e2, e3, e4, e5, e6, q0, q1⟩ | go_keep) (first
          | (go_at_call 13; (refine (pubBlank_any _ _ _ _ _ _ _ _ _ _ _ _ _ (by simp [bxPan]) (by simp [bxPan]) (by simp [bxTop]) (by simp [bxTop]) (by simp [bxBot]) (by simp [bxBot]) _ (rpa.grow (gZ.tr gX)) (rta.grow (gZ.tr gX)) (rba.grow (gZ.tr gX))).mono ?_); rintro e w6 ⟨p, pc_, t, tc_, b, bc_, rfl, hy, hr1, hr2, hr3, _, _, _⟩; replace gX := gX.tr hy; (obtain ⟨e0, e1, e2, e3, e4, e5, e6⟩ := (b8.keep (gZ.tr gX)).c7); (obtain ⟨q0, q1⟩ := (bk1.keep (gZ.tr gX)).c2))
          | (go_at_call 21; (refine (pubInts_any [t0, t1, t2] (by simp) (by simp) _ _ _ (rt.grow gX)).mono ?_); rintro e w7 ⟨ia, ic, rfl, hi, hri, _⟩; have hr1 := hr1.grow hi; have hr2 := hr2.grow hi; have hr3 := hr3.grow hi; replace gX := gX.tr hi; (obtain ⟨e0, e1, e2, e3, e4, e5, e6⟩ := (b8.keep (gZ.tr gX)).c7); (obtain ⟨q0, q1⟩ := (bk1.keep (gZ.tr gX)).c2))
          | (go_at_call 20; (refine (holds_ok _ _ _ _ _ _ _ _ _ _ _ _ _ _ _ [t0, t1, t2] HGL.out HK1.out (by simp) HT3.out _ _ _ hr1 hr2 hr3 hri).mono ?_); rintro e w8 ⟨rfl, hh⟩; replace gX := gX.tr hh; (obtain ⟨e0, e1, e2, e3, e4, e5, e6⟩ := (b8.keep (gZ.tr gX)).c7); (obtain ⟨q0, q1⟩ := (bk1.keep (gZ.tr gX)).c2)))
        clear e0 e1 e2 e3 e4 e5 e6 q0 q1 hr1 hr2 hr3 hri hy hi hh
        go_upto_region 19 with fail
        have gZ := gZ.tr gX
        have rt := rt.grow gX
        have e2 : w8.cell? ⟨B8, 2, none⟩ = some (.int .i64 (40 + x21 + m)) := (b8.keep gZ).2 2 _ rfl
        have e3 : w8.cell? ⟨M1 + 1, 1, none⟩ = some (.int .i64 ch1) := (bk1.keep gZ).2 1 _ rfl
        have e4 : w8.cell? ⟨wr.heap.size, 2, none⟩ = some (.int .i64 t2) := by
          obtain ⟨_, _, e, _, h⟩ := IRow.get rt (j := 2) (x := t2) rfl
          cases e
          simpa using h
        obtain ⟨h0, h1⟩ := in_one HGL.out.ghei
        obtain ⟨p4, p5, _⟩ := HB2.out
        have x0_ := From.keep e2
        have x1_ := From.keep e3
        have x2_ := From.keep e4
        refine wp_region_gr (by kernel_rfl) (by kernel_rfl) ?_
        repeat (go_big_quiet_step (fail))
        refine wpQuiet_nil ?_
        rintro _ ⟨u, rfl⟩
        clear x0_ x1_ x2_ e2 e3 e4
        have gF := gU.tr (gZ.tr u.property)
        have F1 : fitsL [t0, t1, t2] (fitsBox 0 (40 + x21) (bxPan x18 x19 0) (bxTop x19 x22) (bxBot x19 x22 x23) false cl2) = true := by
          rw [show bxPan x18 x19 0 = [bxLong x18 0, bxWide x19 0, bxLong x18 0, bxWide x19 0] from rfl, box_at (show GoodB _ _ _ [bxLong x18 0, bxWide x19 0, bxLong x18 0, bxWide x19 0] _ _ _ from HGB.out)]
          exact fits_at HB0.out.2.2 HB1.out.2.2 HB2.out.2.2
        have F2 : looseB (playL (40 + x21 + m) (bxPan x18 x19 m) (bxTop x19 x22) (bxBot x19 x22 x23) false cl1 ch1 (40 + x21) (bxPan x18 x19 0) (bxTop x19 x22) (bxBot x19 x22 x23) false cl2 ch2 4) = true → decide (1000 * t2 ≤ 1000 * (40 + x21 + m) - 2 * ch1) = true → fitsL [t0, t1, t2] (fitsBox 0 (40 + x21 + m) (bxPan x18 x19 m) (bxTop x19 x22) (bxBot x19 x22 x23) false ch1) = true := by
          intro hq hh
          have hh' := of_decide_eq_true hh
          have hP0 := play_at HGL.out HGB.out cl1 ch1 cl2 ch2 (k := 0) (by omega) (p := bxLong x18 m) (p' := bxLong x18 0) rfl rfl
          have hP1 := play_at HGL.out HGB.out cl1 ch1 cl2 ch2 (k := 1) (by omega) (p := bxWide x19 m) (p' := bxWide x19 0) rfl rfl
          have q0 := of_decide_eq_true (List.all_eq_true.1 hq _ (List.mem_map.2 ⟨0, by simp, hP0⟩))
          have q1 := of_decide_eq_true (List.all_eq_true.1 hq _ (List.mem_map.2 ⟨1, by simp, hP1⟩))
          simp only at q0 q1
          have w0 := HB0.out.2.2
          have w1 := HB1.out.2.2
          rw [show bxPan x18 x19 m = [bxLong x18 m, bxWide x19 m, bxLong x18 m, bxWide x19 m] from rfl, box_at (show GoodB _ _ _ [bxLong x18 m, bxWide x19 m, bxLong x18 m, bxWide x19 m] _ _ _ from HGL.out)]
          exact fits_at (by omega) (by omega) hh'
        generalize fitsL [t0, t1, t2] (fitsBox 0 (40 + x21) (bxPan x18 x19 0) (bxTop x19 x22) (bxBot x19 x22 x23) false cl2) = fp at F1 ⊢
        subst F1
        generalize fitsL [t0, t1, t2] (fitsBox 0 (40 + x21) (bxPan x18 x19 0) (bxTop x19 x22) (bxBot x19 x22 x23) false ch2) = fx
        generalize fitsL [t0, t1, t2] (fitsBox 0 (40 + x21 + m) (bxPan x18 x19 m) (bxTop x19 x22) (bxBot x19 x22 x23) false cl1) = fz
        generalize fitsL [t0, t1, t2] (fitsBox 0 (40 + x21 + m) (bxPan x18 x19 m) (bxTop x19 x22) (bxBot x19 x22 x23) false ch1) = fs at F2 ⊢
        generalize decide (1000 * t2 ≤ 1000 * (40 + x21 + m) - 2 * ch1) = fh at F2 ⊢
        generalize looseB (playL (40 + x21 + m) (bxPan x18 x19 m) (bxTop x19 x22) (bxBot x19 x22 x23) false cl1 ch1 (40 + x21) (bxPan x18 x19 0) (bxTop x19 x22) (bxBot x19 x22 x23) false cl2 ch2 4) = fl at F2 ⊢
        clear gU gZ gX gY gJ b8 b9 bk1 bk2 rpa rta rba rpa1 rta1 rba1 rt HGB HGL HK1 HK2 HT3 hl HB0 HB1 HB2 hva hvb a0 a1 a2 a3 a4 a5 cb1 cb2 h0 h1 p4 p5
        cases fl <;> cases fh <;> cases fs <;> first
          | exact absurd (F2 rfl rfl) (by decide)
          | (clear F2
             go_wp2_with (first
               | (go_at_call 16; (refine (pubBoard_any _).mono ?_); rintro e w1 ⟨rfl, h8⟩)
               | (go_at_call 17; (refine (pubScore_any _).mono ?_); rintro e w2 ⟨rfl, h9⟩))
             go_ret
             exact ⟨rfl, gF.tr (h8.tr h9)⟩)

end Go.Proofs.Ytbohjmogpiaejaa
