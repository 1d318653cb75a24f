/- TopInsideBoard. -/
import Derived.Test.YtbohjmogpiaejaaR3
import Derived.Test.YtbohjmogpiaejaaV7
import Derived.Test.YtbohjmogpiaejaaW2
import Derived.Test.YtbohjmogpiaejaaR4
import Derived.Test.YtbohjmogpiaejaaP6
import Derived.Test.YtbohjmogpiaejaaP3
import Derived.Deep.MidRow
namespace Go.Proofs.Ytbohjmogpiaejaa
set_option linter.unusedVariables false
set_option linter.unusedSimpArgs false
open Go.RowKit

theorem inner_nine (tab hei slo : Int) (pan top bot : List Int) (pa ta ba : Option Addr) (pc tc bc : Nat) (opn : Bool) (cl ch : Int) (G : GoodB tab hei slo pan top bot opn) (hc : okSpan 1 10000 cl ch = true) (w : World) (hp : IRow w pa pan) (ht : IRow w ta top) (hb : IRow w ba bot) :
    Calls Try.prog 12 #[.agg #[.int .i64 tab, .slice pa pan.length pc, .int .i64 hei, .slice ta top.length tc, .slice ba bot.length bc, .int .i64 slo, .bool opn], .agg #[.int .i64 cl, .int .i64 ch], .int .i64 0] w fun e w' => ∃ a cap, e = .returned (.tuple #[.slice a 9 cap, .int .i64 0]) ∧ Gr w w' ∧ SRow w' a (innerL 0 hei pan top bot opn cl ch 9) :=
  (inner_ok tab hei slo 0 pan top bot pa ta ba pc tc bc opn cl ch G (by decide) hc w hp ht hb).mono fun e w' ⟨a, cap, he, hg, hr⟩ => ⟨a, cap, by rw [he]; simp [innerL], hg, hr⟩

set_option maxRecDepth 100000 in
set_option maxHeartbeats 4000000 in
theorem insideBoard_any (x0 x1 x2 x3 x4 x5 x6 x7 x8 x9 x10 x11 x12 x13 x14 x15 x16 x17 x18 x19 x20 x21 x22 x23 x24 : Int) (truth : List Int) (hb0 : ∀ n ∈ [x0, x1, x2, x3, x4, x5, x6, x7, x8, x9, x10, x11, x12, x13, x14, x15, x16, x17], Byt n) (hb1 : ∀ n ∈ [x18, x19, x20, x21, x22, x23, x24], Byt n) (hT : Bytes truth) (HM : Hid (madeL (storeP x0 x1 x2 x3 x4 x5 x6 x7 x8 x9 x10 x11) (storeF x12 x13 x14 x15 x16 x17) [0, 1, 2] [0] = 0)) (HGB : Hid (GoodB (x20 % 50) (40 + x21) (x24 % 21) (bxPan x18 x19 0) (bxTop x19 x22) (bxBot x19 x22 x23) false)) (HTK : Hid (okSpan 1 10000 (thickL false (storeP x0 x1 x2 x3 x4 x5 x6 x7 x8 x9 x10 x11) (storeF x12 x13 x14 x15 x16 x17) [0, 1, 2] [0]) (thickL true (storeP x0 x1 x2 x3 x4 x5 x6 x7 x8 x9 x10 x11) (storeF x12 x13 x14 x15 x16 x17) [0, 1, 2] [0]) = true)) (td : Option Addr) (tcap : Nat) (w : World) (ht : URow w td truth) :
    Calls Try.prog 3 #[.agg #[.int .u8 x0, .int .u8 x1, .int .u8 x2, .int .u8 x3, .int .u8 x4, .int .u8 x5, .int .u8 x6, .int .u8 x7, .int .u8 x8, .int .u8 x9, .int .u8 x10, .int .u8 x11, .int .u8 x12, .int .u8 x13, .int .u8 x14, .int .u8 x15, .int .u8 x16, .int .u8 x17, .int .u8 x18, .int .u8 x19, .int .u8 x20, .int .u8 x21, .int .u8 x22, .int .u8 x23, .int .u8 x24], .slice td truth.length tcap] w fun e w' => e = .returned (.bool true) ∧ Gr w w' := by
  have gg := Gr.al w (.cells #[.int .u8 x0, .int .u8 x1, .int .u8 x2, .int .u8 x3, .int .u8 x4, .int .u8 x5, .int .u8 x6, .int .u8 x7, .int .u8 x8, .int .u8 x9, .int .u8 x10, .int .u8 x11, .int .u8 x12, .int .u8 x13, .int .u8 x14, .int .u8 x15, .int .u8 x16, .int .u8 x17, .int .u8 x18, .int .u8 x19, .int .u8 x20, .int .u8 x21, .int .u8 x22, .int .u8 x23, .int .u8 x24] 28)
  have hx := Box.new w [.int .u8 x0, .int .u8 x1, .int .u8 x2, .int .u8 x3, .int .u8 x4, .int .u8 x5, .int .u8 x6, .int .u8 x7, .int .u8 x8, .int .u8 x9, .int .u8 x10, .int .u8 x11, .int .u8 x12, .int .u8 x13, .int .u8 x14, .int .u8 x15, .int .u8 x16, .int .u8 x17, .int .u8 x18, .int .u8 x19, .int .u8 x20, .int .u8 x21, .int .u8 x22, .int .u8 x23, .int .u8 x24] 28 w.heap.size rfl
  have H0 := Lib.hid hb0
  have H1 := Lib.hid hb1
  clear hb0 hb1
  go_enter Try.func3, Try.ntmps3
  go_upto_region 1 with fail
  refine wp_abs (fun W => Gr w W ∧ Box W w.heap.size [.int .u8 x0, .int .u8 x1, .int .u8 x2, .int .u8 x3, .int .u8 x4, .int .u8 x5, .int .u8 x6, .int .u8 x7, .int .u8 x8, .int .u8 x9, .int .u8 x10, .int .u8 x11, .int .u8 x12, .int .u8 x13, .int .u8 x14, .int .u8 x15, .int .u8 x16, .int .u8 x17, .int .u8 x18, .int .u8 x19, .int .u8 x20, .int .u8 x21, .int .u8 x22, .int .u8 x23, .int .u8 x24]) ⟨gg, hx⟩ ?_
  clear gg hx
  rintro W ⟨gg, hx⟩
  refine wp_region_inv' 8 [(1, 0), (4, 3)] (fun a0 listed a v => ∃ (t5 t6 t7 t18 t19 t20 t21 t22 : Value) (A : List (Option Addr)) (Bs : List Nat),
    a = ⟨#[.agg #[.int .u8 x0, .int .u8 x1, .int .u8 x2, .int .u8 x3, .int .u8 x4, .int .u8 x5, .int .u8 x6, .int .u8 x7, .int .u8 x8, .int .u8 x9, .int .u8 x10, .int .u8 x11, .int .u8 x12, .int .u8 x13, .int .u8 x14, .int .u8 x15, .int .u8 x16, .int .u8 x17, .int .u8 x18, .int .u8 x19, .int .u8 x20, .int .u8 x21, .int .u8 x22, .int .u8 x23, .int .u8 x24], .slice td truth.length tcap, .pointer (some ⟨w.heap.size, 0, none⟩), undef, .bool false, t5, t6, t7, undef, undef, undef, undef, undef, undef, undef, undef, undef, undef, t18, t19, t20, t21, t22, undef, undef, undef, undef, undef, undef, undef, undef, undef, undef, undef, undef, undef, undef, undef, undef, undef, undef, undef, undef, undef, undef, undef, undef, undef, undef, undef, undef, undef, undef, undef, undef, undef, undef, undef, undef, undef, undef, undef, undef, undef, undef, undef, undef, undef, undef, undef, undef, undef, undef, undef, undef, undef, undef, undef, undef, undef, undef, undef, undef, undef, undef, undef, undef, undef, undef, undef, undef, undef, undef, undef, undef, undef, undef, undef, undef, undef, undef, undef, undef, undef, undef, undef, undef, undef, undef, undef, undef, undef, undef, undef, undef, undef, undef, undef, undef, undef, undef, undef, undef, undef, undef, undef, undef, undef, undef, undef, undef, undef, undef, undef, undef, undef, undef, undef, undef, undef, undef, undef, undef, undef, undef, undef, undef, undef, undef, undef, undef, undef, undef, undef, undef, undef, undef, undef, undef, undef, undef, undef, undef, undef, undef, undef, undef, undef, undef, undef, undef, undef, undef, undef, undef, undef, undef, undef, undef, undef, undef, undef, undef, undef, undef, undef, undef, undef, undef, undef, undef], []⟩ ∧ Sep W v A Bs ∧
    Fact listed 0 (t18 = .agg #[.int .u8 x0, .int .u8 x1, .int .u8 x2, .int .u8 x3, .int .u8 x4, .int .u8 x5, .int .u8 x6, .int .u8 x7, .int .u8 x8, .int .u8 x9, .int .u8 x10, .int .u8 x11, .int .u8 x12, .int .u8 x13, .int .u8 x14, .int .u8 x15, .int .u8 x16, .int .u8 x17, .int .u8 x18, .int .u8 x19, .int .u8 x20, .int .u8 x21, .int .u8 x22, .int .u8 x23, .int .u8 x24]) ∧ Fact listed 1 (CStore (storeP x0 x1 x2 x3 x4 x5 x6 x7 x8 x9 x10 x11) (storeF x12 x13 x14 x15 x16 x17) v A t19) ∧ Fact listed 2 (CMade [0, 1, 2] [0] v A t20) ∧ Fact listed 3 (t21 = .agg #[.int .u8 x0, .int .u8 x1, .int .u8 x2, .int .u8 x3, .int .u8 x4, .int .u8 x5, .int .u8 x6, .int .u8 x7, .int .u8 x8, .int .u8 x9, .int .u8 x10, .int .u8 x11, .int .u8 x12, .int .u8 x13, .int .u8 x14, .int .u8 x15, .int .u8 x16, .int .u8 x17, .int .u8 x18, .int .u8 x19, .int .u8 x20, .int .u8 x21, .int .u8 x22, .int .u8 x23, .int .u8 x24]) ∧
    Fact listed 4 (CBlank (x20 % 50) (40 + x21) (x24 % 21) (bxPan x18 x19 0) (bxTop x19 x22) (bxBot x19 x22 x23) false v A t22) ∧
    Fact listed 5 (CPtr [.slice none 0 0, .slice none 0 0] 33 v Bs t5) ∧ Fact listed 6 (CPtr [.slice none 0 0, .slice none 0 0] 37 v Bs t6) ∧
    Fact listed 7 (CPtr [.int .i64 0, .slice none 0 0, .int .i64 0, .slice none 0 0, .slice none 0 0, .int .i64 0, .bool false] 40 v Bs t7)) (by kernel_rfl) (by kernel_rfl) (by kernel_rfl) ?init ?step ?fin
  case init =>
    exact ⟨undef, undef, undef, undef, undef, undef, undef, undef, [], [], by rfl, ⟨Gr.dr W, by simp, by simp⟩, Fact.no _ _ _, Fact.no _ _ _, Fact.no _ _ _, Fact.no _ _ _, Fact.no _ _ _, Fact.no _ _ _, Fact.no _ _ _, Fact.no _ _ _⟩
  case step => as_aux_lemma =>
    rintro i hi listed a v hun hdep ⟨t5, t6, t7, t18, t19, t20, t21, t22, A, Bs, rfl, hsep, f0, f1, f2, f3, f4, f5, f6, f7⟩
    have hi8 : i = 0 ∨ i = 1 ∨ i = 2 ∨ i = 3 ∨ i = 4 ∨ i = 5 ∨ i = 6 ∨ i = 7 := by omega
    rcases hi8 with rfl | rfl | rfl | rfl | rfl | rfl | rfl | rfl
    · clear hdep
      refine wpOp_step rfl (fun K' hK => ?_)
      rw [if_pos (by rfl)]
      refine wp_load_mid 28 _ rfl w.heap.size 0 (by rfl) [.int .u8 x0, .int .u8 x1, .int .u8 x2, .int .u8 x3, .int .u8 x4, .int .u8 x5, .int .u8 x6, .int .u8 x7, .int .u8 x8, .int .u8 x9, .int .u8 x10, .int .u8 x11, .int .u8 x12, .int .u8 x13, .int .u8 x14, .int .u8 x15, .int .u8 x16, .int .u8 x17, .int .u8 x18, .int .u8 x19, .int .u8 x20, .int .u8 x21, .int .u8 x22, .int .u8 x23, .int .u8 x24] _ (fun j u hu => by rw [Nat.zero_add]; exact (hx.keep hsep.gr).2 j u hu) Try.underlying28 rfl (by kernel_rfl) ?_
      exact hK _ _ ⟨t5, t6, t7, _, t19, t20, t21, t22, A, Bs, by rfl, hsep, Fact.lay rfl, f1.keep (by decide), f2.keep (by decide), f3.keep (by decide), f4.keep (by decide), f5.keep (by decide), f6.keep (by decide), f7.keep (by decide)⟩
    · have d0 := f0 (hdep 0 (by simp))
      clear hdep
      subst d0
      refine wpOp_step rfl (fun K' hK => ?_)
      go_simp
      refine (pubStore_any _ _ _ _ _ _ _ _ _ _ _ _ _ _ _ _ _ _ _ _ _ _ _ _ _ H0.out v).mono ?_
      rintro e v' ⟨a, ac, g, gc, rfl, hg, hr1, hr2, n1, n2⟩
      have s1 := hsep.call hg [a, g] (two_new n1 n2 (hr1.addr (by simp [storeP])) (hr2.addr (by simp [storeF])))
      exact hK _ _ ⟨t5, t6, t7, _, _, t20, t21, t22, _, Bs, by rfl, s1, f0.keep (by decide), Fact.lay ⟨a, ac, g, gc, rfl, hr1, hr2, by simp, by simp⟩, (f2.keep (by decide)).map (fun h => h.up hg (mem_app _ _)), f3.keep (by decide), (f4.keep (by decide)).map (fun h => h.up hg (mem_app _ _)), (f5.keep (by decide)).map (fun h => h.up hg (mem_same _)), (f6.keep (by decide)).map (fun h => h.up hg (mem_same _)), (f7.keep (by decide)).map (fun h => h.up hg (mem_same _))⟩
    · clear hdep
      refine wpOp_step rfl (fun K' hK => ?_)
      go_simp
      refine (pubSingle_any v).mono ?_
      rintro e v' ⟨a, ac, g, gc, rfl, hg, hr1, hr2, n1, n2⟩
      have s1 := hsep.call hg [a, g] (two_new n1 n2 (hr1.addr (by simp [storeP])) (hr2.addr (by simp [storeF])))
      exact hK _ _ ⟨t5, t6, t7, t18, t19, _, t21, t22, _, Bs, by rfl, s1, f0.keep (by decide), (f1.keep (by decide)).map (fun h => h.up hg (mem_app _ _)), Fact.lay ⟨a, ac, g, gc, rfl, hr1, hr2, by simp, by simp⟩, f3.keep (by decide), (f4.keep (by decide)).map (fun h => h.up hg (mem_app _ _)), (f5.keep (by decide)).map (fun h => h.up hg (mem_same _)), (f6.keep (by decide)).map (fun h => h.up hg (mem_same _)), (f7.keep (by decide)).map (fun h => h.up hg (mem_same _))⟩
    · clear hdep
      refine wpOp_step rfl (fun K' hK => ?_)
      rw [if_pos (by rfl)]
      refine wp_load_mid 28 _ rfl w.heap.size 0 (by rfl) [.int .u8 x0, .int .u8 x1, .int .u8 x2, .int .u8 x3, .int .u8 x4, .int .u8 x5, .int .u8 x6, .int .u8 x7, .int .u8 x8, .int .u8 x9, .int .u8 x10, .int .u8 x11, .int .u8 x12, .int .u8 x13, .int .u8 x14, .int .u8 x15, .int .u8 x16, .int .u8 x17, .int .u8 x18, .int .u8 x19, .int .u8 x20, .int .u8 x21, .int .u8 x22, .int .u8 x23, .int .u8 x24] _ (fun j u hu => by rw [Nat.zero_add]; exact (hx.keep hsep.gr).2 j u hu) Try.underlying28 rfl (by kernel_rfl) ?_
      exact hK _ _ ⟨t5, t6, t7, t18, t19, t20, _, t22, A, Bs, by rfl, hsep, f0.keep (by decide), f1.keep (by decide), f2.keep (by decide), Fact.lay rfl, f4.keep (by decide), f5.keep (by decide), f6.keep (by decide), f7.keep (by decide)⟩
    · have d0 := f3 (hdep 3 (by simp))
      clear hdep
      subst d0
      refine wpOp_step rfl (fun K' hK => ?_)
      go_simp
      have hpb := pubBox_any x0 x1 x2 x3 x4 x5 x6 x7 x8 x9 x10 x11 x12 x13 x14 x15 x16 x17 x18 x19 x20 x21 x22 x23 x24 0 (by omega) (by omega) (H1.out x18 (by simp)).1 (H1.out x18 (by simp)).2 (H1.out x19 (by simp)).1 (H1.out x19 (by simp)).2 (H1.out x20 (by simp)).1 (H1.out x20 (by simp)).2 (H1.out x21 (by simp)).1 (H1.out x21 (by simp)).2 (H1.out x22 (by simp)).1 (H1.out x22 (by simp)).2 (H1.out x23 (by simp)).1 (H1.out x23 (by simp)).2 (H1.out x24 (by simp)).1 (H1.out x24 (by simp)).2 v
      rw [show (40 + x21 + 0 : Int) = 40 + x21 from Int.add_zero _] at hpb
      refine hpb.mono ?_
      rintro e v' ⟨pa, pc, ta, tc, ba, bc, rfl, hg, hr1, hr2, hr3, n1, n2, n3⟩
      have s1 := hsep.call hg [pa, ta, ba] (three_new n1 n2 n3 (hr1.addr (by simp [bxPan])) (hr2.addr (by simp [bxTop])) (hr3.addr (by simp [bxBot])))
      exact hK _ _ ⟨t5, t6, t7, t18, t19, t20, _, _, _, Bs, by rfl, s1, f0.keep (by decide), (f1.keep (by decide)).map (fun h => h.up hg (mem_app _ _)), (f2.keep (by decide)).map (fun h => h.up hg (mem_app _ _)), f3.keep (by decide), Fact.lay ⟨pa, pc, ta, tc, ba, bc, rfl, hr1, hr2, hr3, by simp, by simp, by simp⟩, (f5.keep (by decide)).map (fun h => h.up hg (mem_same _)), (f6.keep (by decide)).map (fun h => h.up hg (mem_same _)), (f7.keep (by decide)).map (fun h => h.up hg (mem_same _))⟩
    · clear hdep
      refine wpOp_step rfl (fun K' hK => ?_)
      go_simp
      have hg := Gr.al v (.cells (List.toArray [.slice none 0 0, .slice none 0 0]) 33)
      have s1 := hsep.al (.cells (List.toArray [.slice none 0 0, .slice none 0 0]) 33)
      exact hK _ _ ⟨_, t6, t7, t18, t19, t20, t21, t22, A, _, by rfl, s1, f0.keep (by decide), (f1.keep (by decide)).map (fun h => h.up hg (mem_same _)), (f2.keep (by decide)).map (fun h => h.up hg (mem_same _)), f3.keep (by decide), (f4.keep (by decide)).map (fun h => h.up hg (mem_same _)), Fact.lay (CPtr.new v [.slice none 0 0, .slice none 0 0] 33 Bs), (f6.keep (by decide)).map (fun h => h.up hg (mem_con _ _)), (f7.keep (by decide)).map (fun h => h.up hg (mem_con _ _))⟩
    · clear hdep
      refine wpOp_step rfl (fun K' hK => ?_)
      go_simp
      have hg := Gr.al v (.cells (List.toArray [.slice none 0 0, .slice none 0 0]) 37)
      have s1 := hsep.al (.cells (List.toArray [.slice none 0 0, .slice none 0 0]) 37)
      exact hK _ _ ⟨t5, _, t7, t18, t19, t20, t21, t22, A, _, by rfl, s1, f0.keep (by decide), (f1.keep (by decide)).map (fun h => h.up hg (mem_same _)), (f2.keep (by decide)).map (fun h => h.up hg (mem_same _)), f3.keep (by decide), (f4.keep (by decide)).map (fun h => h.up hg (mem_same _)), (f5.keep (by decide)).map (fun h => h.up hg (mem_con _ _)), Fact.lay (CPtr.new v [.slice none 0 0, .slice none 0 0] 37 Bs), (f7.keep (by decide)).map (fun h => h.up hg (mem_con _ _))⟩
    · clear hdep
      refine wpOp_step rfl (fun K' hK => ?_)
      go_simp
      have hg := Gr.al v (.cells (List.toArray [.int .i64 0, .slice none 0 0, .int .i64 0, .slice none 0 0, .slice none 0 0, .int .i64 0, .bool false]) 40)
      have s1 := hsep.al (.cells (List.toArray [.int .i64 0, .slice none 0 0, .int .i64 0, .slice none 0 0, .slice none 0 0, .int .i64 0, .bool false]) 40)
      exact hK _ _ ⟨t5, t6, _, t18, t19, t20, t21, t22, A, _, by rfl, s1, f0.keep (by decide), (f1.keep (by decide)).map (fun h => h.up hg (mem_same _)), (f2.keep (by decide)).map (fun h => h.up hg (mem_same _)), f3.keep (by decide), (f4.keep (by decide)).map (fun h => h.up hg (mem_same _)), (f5.keep (by decide)).map (fun h => h.up hg (mem_con _ _)), (f6.keep (by decide)).map (fun h => h.up hg (mem_con _ _)), Fact.lay (CPtr.new v [.int .i64 0, .slice none 0 0, .int .i64 0, .slice none 0 0, .slice none 0 0, .int .i64 0, .bool false] 40 Bs)⟩
  case fin =>
    rintro listed a v hls hall ⟨t5, t6, t7, t18, t19, t20, t21, t22, A, Bs, rfl, hsep, f0, f1, f2, f3, f4, f5, f6, f7⟩
    obtain ⟨a1, ac1, g1, gc1, rfl, rp, rf, m1, m2⟩ := f1.now hall hls (by omega)
    obtain ⟨a2, ac2, g2, gc2, rfl, ra, rg, m3, m4⟩ := f2.now hall hls (by omega)
    obtain ⟨pa, pc, ta, tc, ba, bc, rfl, rpa, rta, rba, m5, m6, m7⟩ := f4.now hall hls (by omega)
    obtain ⟨B5, rfl, k5, z5⟩ := f5.now hall hls (by omega)
    obtain ⟨B6, rfl, k6, z6⟩ := f6.now hall hls (by omega)
    obtain ⟨B7, rfl, k7, z7⟩ := f7.now hall hls (by omega)
    have d0 := f0.now hall hls (by omega)
    have d3 := f3.now hall hls (by omega)
    subst d0 d3
    have n56 : B5 ≠ B6 := z5.ne z6 (by decide)
    have n57 : B5 ≠ B7 := z5.ne z7 (by decide)
    have n67 : B6 ≠ B7 := z6.ne z7 (by decide)
    have n65 := n56.symm
    have n75 := n57.symm
    have n76 := n67.symm
    have o5 := z5.own
    have o6 := z6.own
    have o7 := z7.own
    have gv := gg.tr hsep.gr
    have lb5 : w.heap.size ≤ B5 := Nat.le_trans gg.size (hsep.bs B5 k5).1
    have lb6 : w.heap.size ≤ B6 := Nat.le_trans gg.size (hsep.bs B6 k6).1
    have lb7 : w.heap.size ≤ B7 := Nat.le_trans gg.size (hsep.bs B7 k7).1
    clear f0 f1 f2 f3 f4 f5 f6 f7 z5 z6 z7 hall hls
    obtain ⟨u0, u1⟩ := o5.1.c2
    obtain ⟨u2, u3⟩ := o6.1.c2
    obtain ⟨u4, u5, u6, u7, u8, u9, u10⟩ := o7.1.c7
    have y0 := o5.2 0
    have y1 := o5.2 1
    have y2 := o6.2 0
    have y3 := o6.2 1
    have y4 := o7.2 0
    have y5 := o7.2 1
    have y6 := o7.2 2
    have y7 := o7.2 3
    have y8 := o7.2 4
    have y9 := o7.2 5
    have y10 := o7.2 6
    have Hlb := Lib.hid (And.intro lb5 (And.intro lb6 lb7))
    clear lb5 lb6 lb7
    show wpList _ _ _ (List.drop 8 _) _ _
    simp only [List.drop_succ_cons, List.drop_zero]
    go_upto_region 2 with fail
    clear u0 u1 u2 u3 u4 u5 u6 u7 u8 u9 u10 y0 y1 y2 y3 y4 y5 y6 y7 y8 y9 y10
    obtain ⟨lb5, lb6, lb7⟩ := Hlb.out

    refine wp_abs (fun U => Gr w U ∧ Box U B5 [.slice a1 (storeP x0 x1 x2 x3 x4 x5 x6 x7 x8 x9 x10 x11).length ac1, .slice g1 (storeF x12 x13 x14 x15 x16 x17).length gc1] ∧ Box U B6 [.slice a2 ([0, 1, 2] : List Int).length ac2, .slice g2 ([0] : List Int).length gc2] ∧ Box U B7 [.int .i64 (x20 % 50), .slice pa (bxPan x18 x19 0).length pc, .int .i64 (40 + x21), .slice ta (bxTop x19 x22).length tc, .slice ba (bxBot x19 x22 x23).length bc, .int .i64 (x24 % 21), .bool false] ∧
        PRow U a1 (storeP x0 x1 x2 x3 x4 x5 x6 x7 x8 x9 x10 x11) ∧ FRow U g1 (storeF x12 x13 x14 x15 x16 x17) ∧ IRow U a2 [0, 1, 2] ∧ IRow U g2 [0] ∧ IRow U pa (bxPan x18 x19 0) ∧ IRow U ta (bxTop x19 x22) ∧ IRow U ba (bxBot x19 x22 x23))
      ⟨(((((((((((gv.setCell (by simp only; omega) _).setCell (by simp only; omega) _).setCell (by simp only; omega) _).setCell (by simp only; omega) _).setCell (by simp only; omega) _).setCell (by simp only; omega) _).setCell (by simp only; omega) _).setCell (by simp only; omega) _).setCell (by simp only; omega) _).setCell (by simp only; omega) _).setCell (by simp only; omega) _), (((((((((((o5.set (i := 0) (by simp)).set (i := 1) (by simp)).other n56).other n56).other n57).other n57).other n57).other n57).other n57).other n57).other n57).1, (((((((((((o6.other n65).other n65).set (i := 0) (by simp)).set (i := 1) (by simp)).other n67).other n67).other n67).other n67).other n67).other n67).other n67).1, (((((((((((o7.other n75).other n75).other n76).other n76).set (i := 0) (by simp)).set (i := 1) (by simp)).set (i := 2) (by simp)).set (i := 3) (by simp)).set (i := 4) (by simp)).set (i := 5) (by simp)).set (i := 6) (by simp)).1, (((((((((((rp.setAt (hsep.apart m1 k5) _ _).setAt (hsep.apart m1 k5) _ _).setAt (hsep.apart m1 k6) _ _).setAt (hsep.apart m1 k6) _ _).setAt (hsep.apart m1 k7) _ _).setAt (hsep.apart m1 k7) _ _).setAt (hsep.apart m1 k7) _ _).setAt (hsep.apart m1 k7) _ _).setAt (hsep.apart m1 k7) _ _).setAt (hsep.apart m1 k7) _ _).setAt (hsep.apart m1 k7) _ _), (((((((((((rf.setAt (hsep.apart m2 k5) _ _).setAt (hsep.apart m2 k5) _ _).setAt (hsep.apart m2 k6) _ _).setAt (hsep.apart m2 k6) _ _).setAt (hsep.apart m2 k7) _ _).setAt (hsep.apart m2 k7) _ _).setAt (hsep.apart m2 k7) _ _).setAt (hsep.apart m2 k7) _ _).setAt (hsep.apart m2 k7) _ _).setAt (hsep.apart m2 k7) _ _).setAt (hsep.apart m2 k7) _ _), (((((((((((ra.setAt (hsep.apart m3 k5) _ _).setAt (hsep.apart m3 k5) _ _).setAt (hsep.apart m3 k6) _ _).setAt (hsep.apart m3 k6) _ _).setAt (hsep.apart m3 k7) _ _).setAt (hsep.apart m3 k7) _ _).setAt (hsep.apart m3 k7) _ _).setAt (hsep.apart m3 k7) _ _).setAt (hsep.apart m3 k7) _ _).setAt (hsep.apart m3 k7) _ _).setAt (hsep.apart m3 k7) _ _), (((((((((((rg.setAt (hsep.apart m4 k5) _ _).setAt (hsep.apart m4 k5) _ _).setAt (hsep.apart m4 k6) _ _).setAt (hsep.apart m4 k6) _ _).setAt (hsep.apart m4 k7) _ _).setAt (hsep.apart m4 k7) _ _).setAt (hsep.apart m4 k7) _ _).setAt (hsep.apart m4 k7) _ _).setAt (hsep.apart m4 k7) _ _).setAt (hsep.apart m4 k7) _ _).setAt (hsep.apart m4 k7) _ _), (((((((((((rpa.setAt (hsep.apart m5 k5) _ _).setAt (hsep.apart m5 k5) _ _).setAt (hsep.apart m5 k6) _ _).setAt (hsep.apart m5 k6) _ _).setAt (hsep.apart m5 k7) _ _).setAt (hsep.apart m5 k7) _ _).setAt (hsep.apart m5 k7) _ _).setAt (hsep.apart m5 k7) _ _).setAt (hsep.apart m5 k7) _ _).setAt (hsep.apart m5 k7) _ _).setAt (hsep.apart m5 k7) _ _), (((((((((((rta.setAt (hsep.apart m6 k5) _ _).setAt (hsep.apart m6 k5) _ _).setAt (hsep.apart m6 k6) _ _).setAt (hsep.apart m6 k6) _ _).setAt (hsep.apart m6 k7) _ _).setAt (hsep.apart m6 k7) _ _).setAt (hsep.apart m6 k7) _ _).setAt (hsep.apart m6 k7) _ _).setAt (hsep.apart m6 k7) _ _).setAt (hsep.apart m6 k7) _ _).setAt (hsep.apart m6 k7) _ _), (((((((((((rba.setAt (hsep.apart m7 k5) _ _).setAt (hsep.apart m7 k5) _ _).setAt (hsep.apart m7 k6) _ _).setAt (hsep.apart m7 k6) _ _).setAt (hsep.apart m7 k7) _ _).setAt (hsep.apart m7 k7) _ _).setAt (hsep.apart m7 k7) _ _).setAt (hsep.apart m7 k7) _ _).setAt (hsep.apart m7 k7) _ _).setAt (hsep.apart m7 k7) _ _).setAt (hsep.apart m7 k7) _ _)⟩ ?_
    clear gv n56 n57 n67 n65 n75 n76 o5 o6 o7 rp rf ra rg rpa rta rba hsep hx gg m1 m2 m3 m4 m5 m6 m7 k5 k6 k7
    rintro U ⟨gU, b5, b6, b7, rp, rf, ra, rg, rpa, rta, rba⟩
    refine wp_region_inv' 13 [(1, 0), (3, 2), (4, 1), (4, 3), (5, 4), (6, 5), (7, 5), (8, 5), (11, 9), (11, 6), (12, 10), (12, 7), (12, 11)] (fun a0 listed a v => ∃ (t8 t9 t23 t24 t25 t26 t27 t28 t29 t30 t31 : Value) (A : List (Option Addr)) (Bs : List Nat), a = ⟨#[.agg #[.int .u8 x0, .int .u8 x1, .int .u8 x2, .int .u8 x3, .int .u8 x4, .int .u8 x5, .int .u8 x6, .int .u8 x7, .int .u8 x8, .int .u8 x9, .int .u8 x10, .int .u8 x11, .int .u8 x12, .int .u8 x13, .int .u8 x14, .int .u8 x15, .int .u8 x16, .int .u8 x17, .int .u8 x18, .int .u8 x19, .int .u8 x20, .int .u8 x21, .int .u8 x22, .int .u8 x23, .int .u8 x24], .slice td truth.length tcap, .pointer (some ⟨w.heap.size, 0, none⟩), undef, .bool false, .pointer (some ⟨B5, 0, none⟩), .pointer (some ⟨B6, 0, none⟩), .pointer (some ⟨B7, 0, none⟩), t8, t9, undef, undef, undef, undef, undef, undef, undef, undef, .agg #[.int .u8 x0, .int .u8 x1, .int .u8 x2, .int .u8 x3, .int .u8 x4, .int .u8 x5, .int .u8 x6, .int .u8 x7, .int .u8 x8, .int .u8 x9, .int .u8 x10, .int .u8 x11, .int .u8 x12, .int .u8 x13, .int .u8 x14, .int .u8 x15, .int .u8 x16, .int .u8 x17, .int .u8 x18, .int .u8 x19, .int .u8 x20, .int .u8 x21, .int .u8 x22, .int .u8 x23, .int .u8 x24], .agg #[.slice a1 (storeP x0 x1 x2 x3 x4 x5 x6 x7 x8 x9 x10 x11).length ac1, .slice g1 (storeF x12 x13 x14 x15 x16 x17).length gc1], .agg #[.slice a2 ([0, 1, 2] : List Int).length ac2, .slice g2 ([0] : List Int).length gc2], .agg #[.int .u8 x0, .int .u8 x1, .int .u8 x2, .int .u8 x3, .int .u8 x4, .int .u8 x5, .int .u8 x6, .int .u8 x7, .int .u8 x8, .int .u8 x9, .int .u8 x10, .int .u8 x11, .int .u8 x12, .int .u8 x13, .int .u8 x14, .int .u8 x15, .int .u8 x16, .int .u8 x17, .int .u8 x18, .int .u8 x19, .int .u8 x20, .int .u8 x21, .int .u8 x22, .int .u8 x23, .int .u8 x24], .agg #[.int .i64 (x20 % 50), .slice pa (bxPan x18 x19 0).length pc, .int .i64 (40 + x21), .slice ta (bxTop x19 x22).length tc, .slice ba (bxBot x19 x22 x23).length bc, .int .i64 (x24 % 21), .bool false], t23, t24, t25, t26, t27, t28, t29, t30, t31, undef, undef, undef, undef, undef, undef, undef, undef, undef, undef, undef, undef, undef, undef, undef, undef, undef, undef, undef, undef, undef, undef, undef, undef, undef, undef, undef, undef, undef, undef, undef, undef, undef, undef, undef, undef, undef, undef, undef, undef, undef, undef, undef, undef, undef, undef, undef, undef, undef, undef, undef, undef, undef, undef, undef, undef, undef, undef, undef, undef, undef, undef, undef, undef, undef, undef, undef, undef, undef, undef, undef, undef, undef, undef, undef, undef, undef, undef, undef, undef, undef, undef, undef, undef, undef, undef, undef, undef, undef, undef, undef, undef, undef, undef, undef, undef, undef, undef, undef, undef, undef, undef, undef, undef, undef, undef, undef, undef, undef, undef, undef, undef, undef, undef, undef, undef, undef, undef, undef, undef, undef, undef, undef, undef, undef, undef, undef, undef, undef, undef, undef, undef, undef, undef, undef, undef, undef, undef, undef, undef, undef, undef, undef, undef, undef, undef, undef, undef, undef, undef, undef, undef, undef, undef, undef, undef, undef, undef, undef], []⟩ ∧ Sep U v A Bs ∧ Fact listed 0 (t24 = .agg #[.slice a1 (storeP x0 x1 x2 x3 x4 x5 x6 x7 x8 x9 x10 x11).length ac1, .slice g1 (storeF x12 x13 x14 x15 x16 x17).length gc1]) ∧ Fact listed 1 (CStore (storeP x0 x1 x2 x3 x4 x5 x6 x7 x8 x9 x10 x11) (storeF x12 x13 x14 x15 x16 x17) v A t25) ∧ Fact listed 2 (t26 = .agg #[.slice a2 ([0, 1, 2] : List Int).length ac2, .slice g2 ([0] : List Int).length gc2]) ∧ Fact listed 3 (CMade [0, 1, 2] [0] v A t27) ∧ Fact listed 4 (t28 = .tuple #[.agg #[.int .i64 (moistL false (storeP x0 x1 x2 x3 x4 x5 x6 x7 x8 x9 x10 x11) (storeF x12 x13 x14 x15 x16 x17) [0, 1, 2] [0]), .int .i64 (moistL true (storeP x0 x1 x2 x3 x4 x5 x6 x7 x8 x9 x10 x11) (storeF x12 x13 x14 x15 x16 x17) [0, 1, 2] [0])], .agg #[.int .i64 (thickL false (storeP x0 x1 x2 x3 x4 x5 x6 x7 x8 x9 x10 x11) (storeF x12 x13 x14 x15 x16 x17) [0, 1, 2] [0]), .int .i64 (thickL true (storeP x0 x1 x2 x3 x4 x5 x6 x7 x8 x9 x10 x11) (storeF x12 x13 x14 x15 x16 x17) [0, 1, 2] [0])], .int .i64 0]) ∧ Fact listed 5 (t23 = .tuple #[.agg #[.int .i64 (moistL false (storeP x0 x1 x2 x3 x4 x5 x6 x7 x8 x9 x10 x11) (storeF x12 x13 x14 x15 x16 x17) [0, 1, 2] [0]), .int .i64 (moistL true (storeP x0 x1 x2 x3 x4 x5 x6 x7 x8 x9 x10 x11) (storeF x12 x13 x14 x15 x16 x17) [0, 1, 2] [0])], .agg #[.int .i64 (thickL false (storeP x0 x1 x2 x3 x4 x5 x6 x7 x8 x9 x10 x11) (storeF x12 x13 x14 x15 x16 x17) [0, 1, 2] [0]), .int .i64 (thickL true (storeP x0 x1 x2 x3 x4 x5 x6 x7 x8 x9 x10 x11) (storeF x12 x13 x14 x15 x16 x17) [0, 1, 2] [0])], .int .i64 0]) ∧ Fact listed 6 (t29 = .agg #[.int .i64 (moistL false (storeP x0 x1 x2 x3 x4 x5 x6 x7 x8 x9 x10 x11) (storeF x12 x13 x14 x15 x16 x17) [0, 1, 2] [0]), .int .i64 (moistL true (storeP x0 x1 x2 x3 x4 x5 x6 x7 x8 x9 x10 x11) (storeF x12 x13 x14 x15 x16 x17) [0, 1, 2] [0])]) ∧ Fact listed 7 (t30 = .agg #[.int .i64 (thickL false (storeP x0 x1 x2 x3 x4 x5 x6 x7 x8 x9 x10 x11) (storeF x12 x13 x14 x15 x16 x17) [0, 1, 2] [0]), .int .i64 (thickL true (storeP x0 x1 x2 x3 x4 x5 x6 x7 x8 x9 x10 x11) (storeF x12 x13 x14 x15 x16 x17) [0, 1, 2] [0])]) ∧ Fact listed 8 (t31 = .int .i64 0) ∧ Fact listed 9 (CTwo v Bs t8) ∧ Fact listed 10 (CTwo v Bs t9) ∧ Fact listed 11 (True) ∧ Fact listed 12 ((listed.getD 10 false = true ∧ listed.getD 11 false = true) ∧ CTold [.int .i64 (thickL false (storeP x0 x1 x2 x3 x4 x5 x6 x7 x8 x9 x10 x11) (storeF x12 x13 x14 x15 x16 x17) [0, 1, 2] [0]), .int .i64 (thickL true (storeP x0 x1 x2 x3 x4 x5 x6 x7 x8 x9 x10 x11) (storeF x12 x13 x14 x15 x16 x17) [0, 1, 2] [0])] v t9)) (by kernel_rfl) (by kernel_rfl) (by kernel_rfl) ?init2 ?step2 ?fin2
    case init2 =>
      exact ⟨undef, undef, undef, undef, undef, undef, undef, undef, undef, undef, undef, [], [], by rfl, ⟨Gr.dr U, by simp, by simp⟩, Fact.no _ _ _, Fact.no _ _ _, Fact.no _ _ _, Fact.no _ _ _, Fact.no _ _ _, Fact.no _ _ _, Fact.no _ _ _, Fact.no _ _ _, Fact.no _ _ _, Fact.no _ _ _, Fact.no _ _ _, Fact.no _ _ _, Fact.no _ _ _⟩
    case step2 => as_aux_lemma =>
      rintro i hi listed a v hun hdep ⟨t8, t9, t23, t24, t25, t26, t27, t28, t29, t30, t31, A, Bs, rfl, hsep, f0, f1, f2, f3, f4, f5, f6, f7, f8, f9, f10, f11, f12⟩
      have hi8 : i = 0 ∨ i = 1 ∨ i = 2 ∨ i = 3 ∨ i = 4 ∨ i = 5 ∨ i = 6 ∨ i = 7 ∨ i = 8 ∨ i = 9 ∨ i = 10 ∨ i = 11 ∨ i = 12 := by omega
      rcases hi8 with rfl | rfl | rfl | rfl | rfl | rfl | rfl | rfl | rfl | rfl | rfl | rfl | rfl
      · clear hdep
        refine wpOp_step rfl (fun K' hK => ?_)
        rw [if_pos (by rfl)]
        refine wp_load_mid 33 _ rfl B5 0 (by rfl) [.slice a1 (storeP x0 x1 x2 x3 x4 x5 x6 x7 x8 x9 x10 x11).length ac1, .slice g1 (storeF x12 x13 x14 x15 x16 x17).length gc1] _ (fun j u hu => by rw [Nat.zero_add]; exact (b5.keep hsep.gr).2 j u hu) Try.underlying33 rfl (by kernel_rfl) ?_
        exact hK _ _ ⟨t8, t9, t23, _, t25, t26, t27, t28, t29, t30, t31, A, Bs, by rfl, hsep, Fact.lay rfl, f1.keep (by decide), f2.keep (by decide), f3.keep (by decide), f4.keep (by decide), f5.keep (by decide), f6.keep (by decide), f7.keep (by decide), f8.keep (by decide), f9.keep (by decide), f10.keep (by decide), f11.keep (by decide), (f12.keep (by decide)).map (fun h => ⟨⟨by rw [getD_set_ne false (by decide)]; exact h.1.1, by rw [getD_set_ne false (by decide)]; exact h.1.2⟩, h.2⟩)⟩
      · have d0 := f0 (hdep 0 (by simp))
        clear hdep
        subst d0
        refine wpOp_step rfl (fun K' hK => ?_)
        go_simp
        refine (pubOwn_any (storeP x0 x1 x2 x3 x4 x5 x6 x7 x8 x9 x10 x11) (storeF x12 x13 x14 x15 x16 x17) (by simp [storeP]) (by simp [storeP]) (by simp [storeF]) (by simp [storeF]) _ _ _ _ v (rp.grow hsep.gr) (rf.grow hsep.gr)).mono ?_
        rintro e v' ⟨a, ac, g, gc, rfl, hg, hr1, hr2, q1, q2⟩
        have s1 := hsep.call hg [a, g] (two_new q1 q2 (hr1.addr (by simp [storeP])) (hr2.addr (by simp [storeF])))
        exact hK _ _ ⟨t8, t9, t23, _, _, t26, t27, t28, t29, t30, t31, _, Bs, by rfl, s1, f0.keep (by decide), Fact.lay ⟨a, ac, g, gc, rfl, hr1, hr2, by simp, by simp⟩, f2.keep (by decide), (f3.keep (by decide)).map (fun h => h.up hg (mem_app _ _)), f4.keep (by decide), f5.keep (by decide), f6.keep (by decide), f7.keep (by decide), f8.keep (by decide), (f9.keep (by decide)).map (fun h => h.up hg (mem_same _)), (f10.keep (by decide)).map (fun h => h.up hg (mem_same _)), f11.keep (by decide), (f12.keep (by decide)).map (fun h => ⟨⟨by rw [getD_set_ne false (by decide)]; exact h.1.1, by rw [getD_set_ne false (by decide)]; exact h.1.2⟩, h.2.up hg⟩)⟩
      · clear hdep
        refine wpOp_step rfl (fun K' hK => ?_)
        rw [if_pos (by rfl)]
        refine wp_load_mid 37 _ rfl B6 0 (by rfl) [.slice a2 ([0, 1, 2] : List Int).length ac2, .slice g2 ([0] : List Int).length gc2] _ (fun j u hu => by rw [Nat.zero_add]; exact (b6.keep hsep.gr).2 j u hu) Try.underlying37 rfl (by kernel_rfl) ?_
        exact hK _ _ ⟨t8, t9, t23, t24, t25, _, t27, t28, t29, t30, t31, A, Bs, by rfl, hsep, f0.keep (by decide), f1.keep (by decide), Fact.lay rfl, f3.keep (by decide), f4.keep (by decide), f5.keep (by decide), f6.keep (by decide), f7.keep (by decide), f8.keep (by decide), f9.keep (by decide), f10.keep (by decide), f11.keep (by decide), (f12.keep (by decide)).map (fun h => ⟨⟨by rw [getD_set_ne false (by decide)]; exact h.1.1, by rw [getD_set_ne false (by decide)]; exact h.1.2⟩, h.2⟩)⟩
      · have d0 := f2 (hdep 2 (by simp))
        clear hdep
        subst d0
        refine wpOp_step rfl (fun K' hK => ?_)
        go_simp
        refine (pubMade_any [0, 1, 2] [0] (by simp) (by simp) (by simp) (by simp) _ _ _ _ v (ra.grow hsep.gr) (rg.grow hsep.gr)).mono ?_
        rintro e v' ⟨a, ac, g, gc, rfl, hg, hr1, hr2, q1, q2⟩
        have s1 := hsep.call hg [a, g] (two_new q1 q2 (hr1.addr (by simp)) (hr2.addr (by simp)))
        exact hK _ _ ⟨t8, t9, t23, t24, t25, _, _, t28, t29, t30, t31, _, Bs, by rfl, s1, f0.keep (by decide), (f1.keep (by decide)).map (fun h => h.up hg (mem_app _ _)), f2.keep (by decide), Fact.lay ⟨a, ac, g, gc, rfl, hr1, hr2, by simp, by simp⟩, f4.keep (by decide), f5.keep (by decide), f6.keep (by decide), f7.keep (by decide), f8.keep (by decide), (f9.keep (by decide)).map (fun h => h.up hg (mem_same _)), (f10.keep (by decide)).map (fun h => h.up hg (mem_same _)), f11.keep (by decide), (f12.keep (by decide)).map (fun h => ⟨⟨by rw [getD_set_ne false (by decide)]; exact h.1.1, by rw [getD_set_ne false (by decide)]; exact h.1.2⟩, h.2.up hg⟩)⟩
      · obtain ⟨a, ac, g, gc, rfl, hr1, hr2, q1, q2⟩ := f1 (hdep 1 (by simp))
        obtain ⟨a', ac', g', gc', rfl, hr3, hr4, q3, q4⟩ := f3 (hdep 3 (by simp))
        clear hdep
        refine wpOp_step rfl (fun K' hK => ?_)
        go_simp
        refine (measureF_ok (storeP x0 x1 x2 x3 x4 x5 x6 x7 x8 x9 x10 x11) (storeF x12 x13 x14 x15 x16 x17) [0, 1, 2] [0] _ _ _ _ _ _ _ _ v hr1 hr2 hr3 hr4 HM.out).mono ?_
        rintro e v' ⟨rfl, hg⟩
        have s1 := hsep.call hg [] (by simp)
        exact hK _ _ ⟨t8, t9, t23, t24, _, t26, _, _, t29, t30, t31, _, Bs, by rfl, s1, f0.keep (by decide), (f1.keep (by decide)).map (fun h => h.up hg (mem_app _ _)), f2.keep (by decide), (f3.keep (by decide)).map (fun h => h.up hg (mem_app _ _)), Fact.lay rfl, f5.keep (by decide), f6.keep (by decide), f7.keep (by decide), f8.keep (by decide), (f9.keep (by decide)).map (fun h => h.up hg (mem_same _)), (f10.keep (by decide)).map (fun h => h.up hg (mem_same _)), f11.keep (by decide), (f12.keep (by decide)).map (fun h => ⟨⟨by rw [getD_set_ne false (by decide)]; exact h.1.1, by rw [getD_set_ne false (by decide)]; exact h.1.2⟩, h.2.up hg⟩)⟩
      · have d0 := f4 (hdep 4 (by simp))
        clear hdep
        subst d0
        refine wpOp_step rfl (fun K' hK => ?_)
        go_simp
        exact hK _ _ ⟨t8, t9, _, t24, t25, t26, t27, _, t29, t30, t31, A, Bs, by rfl, hsep, f0.keep (by decide), f1.keep (by decide), f2.keep (by decide), f3.keep (by decide), f4.keep (by decide), Fact.lay rfl, f6.keep (by decide), f7.keep (by decide), f8.keep (by decide), f9.keep (by decide), f10.keep (by decide), f11.keep (by decide), (f12.keep (by decide)).map (fun h => ⟨⟨by rw [getD_set_ne false (by decide)]; exact h.1.1, by rw [getD_set_ne false (by decide)]; exact h.1.2⟩, h.2⟩)⟩
      · have d0 := f5 (hdep 5 (by simp))
        clear hdep
        subst d0
        refine wpOp_step rfl (fun K' hK => ?_)
        go_simp
        exact hK _ _ ⟨t8, t9, _, t24, t25, t26, t27, t28, _, t30, t31, A, Bs, by rfl, hsep, f0.keep (by decide), f1.keep (by decide), f2.keep (by decide), f3.keep (by decide), f4.keep (by decide), f5.keep (by decide), Fact.lay rfl, f7.keep (by decide), f8.keep (by decide), f9.keep (by decide), f10.keep (by decide), f11.keep (by decide), (f12.keep (by decide)).map (fun h => ⟨⟨by rw [getD_set_ne false (by decide)]; exact h.1.1, by rw [getD_set_ne false (by decide)]; exact h.1.2⟩, h.2⟩)⟩
      · have d0 := f5 (hdep 5 (by simp))
        clear hdep
        subst d0
        refine wpOp_step rfl (fun K' hK => ?_)
        go_simp
        exact hK _ _ ⟨t8, t9, _, t24, t25, t26, t27, t28, t29, _, t31, A, Bs, by rfl, hsep, f0.keep (by decide), f1.keep (by decide), f2.keep (by decide), f3.keep (by decide), f4.keep (by decide), f5.keep (by decide), f6.keep (by decide), Fact.lay rfl, f8.keep (by decide), f9.keep (by decide), f10.keep (by decide), f11.keep (by decide), (f12.keep (by decide)).map (fun h => ⟨⟨by rw [getD_set_ne false (by decide)]; exact h.1.1, by rw [getD_set_ne false (by decide)]; exact h.1.2⟩, h.2⟩)⟩
      · have d0 := f5 (hdep 5 (by simp))
        clear hdep
        subst d0
        refine wpOp_step rfl (fun K' hK => ?_)
        go_simp
        exact hK _ _ ⟨t8, t9, _, t24, t25, t26, t27, t28, t29, t30, _, A, Bs, by rfl, hsep, f0.keep (by decide), f1.keep (by decide), f2.keep (by decide), f3.keep (by decide), f4.keep (by decide), f5.keep (by decide), f6.keep (by decide), f7.keep (by decide), Fact.lay rfl, f9.keep (by decide), f10.keep (by decide), f11.keep (by decide), (f12.keep (by decide)).map (fun h => ⟨⟨by rw [getD_set_ne false (by decide)]; exact h.1.1, by rw [getD_set_ne false (by decide)]; exact h.1.2⟩, h.2⟩)⟩
      · clear hdep
        refine wpOp_step rfl (fun K' hK => ?_)
        go_simp
        have hg := Gr.al v (.cells (List.toArray [.int .i64 0, .int .i64 0]) 43)
        have s1 := hsep.al (.cells (List.toArray [.int .i64 0, .int .i64 0]) 43)
        exact hK _ _ ⟨_, t9, t23, t24, t25, t26, t27, t28, t29, t30, t31, A, _, by rfl, s1, f0.keep (by decide), (f1.keep (by decide)).map (fun h => h.up hg (mem_same _)), f2.keep (by decide), (f3.keep (by decide)).map (fun h => h.up hg (mem_same _)), f4.keep (by decide), f5.keep (by decide), f6.keep (by decide), f7.keep (by decide), f8.keep (by decide), Fact.lay (CTwo.new v (.int .i64 0) (.int .i64 0) 43 Bs), (f10.keep (by decide)).map (fun h => h.up hg (mem_con _ _)), f11.keep (by decide), (f12.keep (by decide)).map (fun h => ⟨⟨by rw [getD_set_ne false (by decide)]; exact h.1.1, by rw [getD_set_ne false (by decide)]; exact h.1.2⟩, h.2.up hg⟩)⟩
      · clear hdep
        refine wpOp_step rfl (fun K' hK => ?_)
        go_simp
        have hg := Gr.al v (.cells (List.toArray [.int .i64 0, .int .i64 0]) 43)
        have s1 := hsep.al (.cells (List.toArray [.int .i64 0, .int .i64 0]) 43)
        exact hK _ _ ⟨t8, _, t23, t24, t25, t26, t27, t28, t29, t30, t31, A, _, by rfl, s1, f0.keep (by decide), (f1.keep (by decide)).map (fun h => h.up hg (mem_same _)), f2.keep (by decide), (f3.keep (by decide)).map (fun h => h.up hg (mem_same _)), f4.keep (by decide), f5.keep (by decide), f6.keep (by decide), f7.keep (by decide), f8.keep (by decide), (f9.keep (by decide)).map (fun h => h.up hg (mem_con _ _)), Fact.lay (CTwo.new v (.int .i64 0) (.int .i64 0) 43 Bs), f11.keep (by decide), (fun hh => absurd (f12.keep (by decide) hh).1.1 (by rw [getD_both hun]; decide))⟩
      · obtain ⟨B, x, y, rfl, kB, k⟩ := f9 (hdep 9 (by simp))
        have d0 := f6 (hdep 6 (by simp))
        have d11 : True := trivial
        have d10 : True := trivial
        clear hdep
        subst d0
        obtain ⟨c0, c1⟩ := k.1.c2
        have z0 := k.2 0
        have z1 := k.2 1
        refine wpOp_step rfl (fun K' hK => ?_)
        go_simp
        exact hK _ _ ⟨_, t9, t23, t24, t25, t26, t27, t28, _, t30, t31, A, Bs, by rfl, (hsep.st kB _ _).st kB _ _, f0.keep (by decide), (f1.keep (by decide)).map (fun h => (h.st hsep kB _ _).st (hsep.st kB _ _) kB _ _), f2.keep (by decide), (f3.keep (by decide)).map (fun h => (h.st hsep kB _ _).st (hsep.st kB _ _) kB _ _), f4.keep (by decide), f5.keep (by decide), f6.keep (by decide), f7.keep (by decide), f8.keep (by decide), (f9.keep (by decide)).map (fun h => h.st _ _ _), (f10.keep (by decide)).map (fun h => h.st _ _ _), Fact.lay trivial, (fun hh => absurd (f12.keep (by decide) hh).1.2 (by rw [getD_both hun]; decide))⟩
      · obtain ⟨B, x, y, rfl, kB, k⟩ := f10 (hdep 10 (by simp))
        have d0 := f7 (hdep 7 (by simp))
        have d11 : listed.getD 11 false = true := hdep 11 (by simp)
        have d10 : listed.getD 10 false = true := hdep 10 (by simp)
        clear hdep
        subst d0
        obtain ⟨c0, c1⟩ := k.1.c2
        have z0 := k.2 0
        have z1 := k.2 1
        refine wpOp_step rfl (fun K' hK => ?_)
        go_simp
        exact hK _ _ ⟨t8, _, t23, t24, t25, t26, t27, t28, t29, _, t31, A, Bs, by rfl, (hsep.st kB _ _).st kB _ _, f0.keep (by decide), (f1.keep (by decide)).map (fun h => (h.st hsep kB _ _).st (hsep.st kB _ _) kB _ _), f2.keep (by decide), (f3.keep (by decide)).map (fun h => (h.st hsep kB _ _).st (hsep.st kB _ _) kB _ _), f4.keep (by decide), f5.keep (by decide), f6.keep (by decide), f7.keep (by decide), f8.keep (by decide), (f9.keep (by decide)).map (fun h => h.st _ _ _), (f10.keep (by decide)).map (fun h => h.st _ _ _), f11.keep (by decide), Fact.lay ⟨⟨by rw [getD_set_ne false (by decide)]; exact d10, by rw [getD_set_ne false (by decide)]; exact d11⟩, ⟨B, rfl, ((k.set (i := 0) (by simp)).set (i := 1) (by simp)).1⟩⟩⟩
    case fin2 =>
      rintro listed a v hls hall ⟨t8, t9, t23, t24, t25, t26, t27, t28, t29, t30, t31, A, Bs, rfl, hsep, f0, f1, f2, f3, f4, f5, f6, f7, f8, f9, f10, f11, f12⟩
      obtain ⟨B8, hu8, hv8, rfl, k8, o8⟩ := f9.now hall hls (by omega)
      obtain ⟨_, B9, rfl, b9⟩ := f12.now hall hls (by omega)
      have d0 := f0.now hall hls (by omega)
      have d2 := f2.now hall hls (by omega)
      have d4 := f4.now hall hls (by omega)
      have d5 := f5.now hall hls (by omega)
      have d6 := f6.now hall hls (by omega)
      have d7 := f7.now hall hls (by omega)
      have d8 := f8.now hall hls (by omega)
      subst d0 d2 d4 d5 d6 d7 d8
      have gV := hsep.gr
      clear f0 f1 f2 f3 f4 f5 f6 f7 f8 f9 f10 f11 f12 hall hls hsep o8 k8
      show wpList _ _ _ (List.drop 13 _) _ _
      simp only [List.drop_succ_cons, List.drop_zero]
      go_upto_region 3 with fail
      have c5 := b5.keep gV
      have c6 := b6.keep gV
      have c7 := b7.keep gV
      have gX := Gr.dr v
      obtain ⟨e0, e1, e2, e3, e4, e5, e6⟩ := (c7.keep gX).c7
      obtain ⟨q0, q1⟩ := (b9.keep gX).c2
      go_region_held3 (fun w' => w'.cell? ⟨B9, 0, none⟩ = some (.int .i64 (thickL false (storeP x0 x1 x2 x3 x4 x5 x6 x7 x8 x9 x10 x11) (storeF x12 x13 x14 x15 x16 x17) [0, 1, 2] [0])) ∧ w'.cell? ⟨B9, 1, none⟩ = some (.int .i64 (thickL true (storeP x0 x1 x2 x3 x4 x5 x6 x7 x8 x9 x10 x11) (storeF x12 x13 x14 x15 x16 x17) [0, 1, 2] [0])) ∧ w'.cell? ⟨B7, 0, none⟩ = some (.int .i64 (x20 % 50)) ∧ w'.cell? ⟨B7, 1, none⟩ = some (.slice pa (bxPan x18 x19 0).length pc) ∧ w'.cell? ⟨B7, 2, none⟩ = some (.int .i64 (40 + x21)) ∧ w'.cell? ⟨B7, 3, none⟩ = some (.slice ta (bxTop x19 x22).length tc) ∧ w'.cell? ⟨B7, 4, none⟩ = some (.slice ba (bxBot x19 x22 x23).length bc) ∧ w'.cell? ⟨B7, 5, none⟩ = some (.int .i64 (x24 % 21)) ∧ w'.cell? ⟨B7, 6, none⟩ = some (.bool false)) (first | exact ⟨q0, q1, e0, e1, e2, e3, e4, e5, e6⟩ | go_keep) (first
        | (go_at_call 13; (refine (pubBlank_any _ _ _ _ _ _ _ _ _ _ _ _ _ (by simp [bxPan]) (by simp [bxPan]) (by simp [bxTop]) (by simp [bxTop]) (by simp [bxBot]) (by simp [bxBot]) _ (rpa.grow (gV.tr gX)) (rta.grow (gV.tr gX)) (rba.grow (gV.tr gX))).mono ?_); rintro e w2 ⟨pa', pc', ta', tc', ba', bc', rfl, hy, hr1, hr2, hr3, _, _, _⟩; replace gX := gX.tr hy; (obtain ⟨e0, e1, e2, e3, e4, e5, e6⟩ := (c7.keep gX).c7); obtain ⟨q0, q1⟩ := (b9.keep gX).c2)
        | (go_at_call 12; (refine (inner_nine _ _ _ _ _ _ _ _ _ _ _ _ _ _ _ HGB.out HTK.out _ hr1 hr2 hr3).mono ?_); rintro e w3 ⟨la, lc, rfl, hz, hrl⟩; replace gX := gX.tr hz; (obtain ⟨e0, e1, e2, e3, e4, e5, e6⟩ := (c7.keep gX).c7); obtain ⟨q0, q1⟩ := (b9.keep gX).c2))
      all_goals
        clear e0 e1 e2 e3 e4 e5 e6 q0 q1 b9 hr1 hr2 hr3
        go_wp2_with fail
        have g0 := gV.tr gX
        have c5 := b5.keep g0
        have c6 := b6.keep g0
        have c7 := b7.keep g0
        have rp1 := rp.grow g0
        have rf1 := rf.grow g0
        have ra1 := ra.grow g0
        have rg1 := rg.grow g0
        have rpa1 := rpa.grow g0
        have rta1 := rta.grow g0
        have rba1 := rba.grow g0
        have gT := gU.tr g0
        clear gU gV gX b5 b6 b7 rp rf ra rg rpa rta rba g0 hy hz
        refine (show (∀ s : Nat → Value, Code.wp Try.prog _ _ ⟨#[.agg #[.int .u8 x0, .int .u8 x1, .int .u8 x2, .int .u8 x3, .int .u8 x4, .int .u8 x5, .int .u8 x6, .int .u8 x7, .int .u8 x8, .int .u8 x9, .int .u8 x10, .int .u8 x11, .int .u8 x12, .int .u8 x13, .int .u8 x14, .int .u8 x15, .int .u8 x16, .int .u8 x17, .int .u8 x18, .int .u8 x19, .int .u8 x20, .int .u8 x21, .int .u8 x22, .int .u8 x23, .int .u8 x24], .slice td truth.length tcap, .pointer (some ⟨w.heap.size, 0, none⟩), s 3, .bool false, .pointer (some ⟨B5, 0, none⟩), .pointer (some ⟨B6, 0, none⟩), .pointer (some ⟨B7, 0, none⟩), s 8, s 9, s 10, .slice la 9 lc, s 12, .int .i64 0, undef, undef, undef, undef, s 18, s 19, s 20, s 21, s 22, s 23, s 24, s 25, s 26, s 27, s 28, s 29, s 30, s 31, s 32, s 33, s 34, s 35, s 36, s 37, s 38, s 39, s 40, s 41, s 42, s 43, s 44, s 45, s 46, s 47, s 48, s 49, undef, undef, undef, undef, undef, undef, undef, undef, undef, undef, undef, undef, undef, undef, undef, undef, undef, undef, undef, undef, undef, undef, undef, undef, undef, undef, undef, undef, undef, undef, undef, undef, undef, undef, undef, undef, undef, undef, undef, undef, undef, undef, undef, undef, undef, undef, undef, undef, undef, undef, undef, undef, undef, undef, undef, undef, undef, undef, undef, undef, undef, undef, undef, undef, undef, undef, undef, undef, undef, undef, undef, undef, undef, undef, undef, undef, undef, undef, undef, undef, undef, undef, undef, undef, undef, undef, undef, undef, undef, undef, undef, undef, undef, undef, undef, undef, undef, undef, undef, undef, undef, undef, undef, undef, undef, undef, undef, undef, undef, undef, undef, undef, undef, undef, undef, undef, undef, undef, undef, undef, undef, undef, undef, undef, undef, undef, undef, undef, undef, undef, undef, undef, undef, undef, undef, undef, undef, undef, undef, undef, undef], []⟩ _) → _ from fun h => h ((fun l : List Value => fun i => l.getD i undef) [undef, undef, undef, _, undef, undef, undef, undef, _, _, _, undef, _, undef, undef, undef, undef, undef, _, _, _, _, _, _, _, _, _, _, _, _, _, _, _, _, _, _, _, _, _, _, _, _, _, _, _, _, _, _, _, _])) ?_
        intro s
        dsimp only
        go_loopw [13] (fun i wr => Hid (∃ k : Nat, k ≤ 3 ∧ i = .int .i64 k ∧ Gr w3 wr)) (fun i wr => 3 - (intOf i).toNat)
        case atStart => exact Lib.hid ⟨0, by omega, rfl, Below.refl _ _⟩
        case round =>
          obtain ⟨k, hk, rfl, gR⟩ := hrel.out
          clear hrel
          by_cases hlt : k < 3
          · skip
            go_upto_region 9 with fail
            have b5 := c5.keep gR
            have b6 := c6.keep gR
            refine wp_region_inv' 9 [(5, 2), (5, 3), (5, 4), (7, 5), (7, 6), (8, 0), (8, 1), (8, 7)] (fun a0 listed a v => ∃ (r : Nat → Value) (t54 t55 t56 t57 t58 t59 t60 t61 t62 : Value), a = ⟨#[.agg #[.int .u8 x0, .int .u8 x1, .int .u8 x2, .int .u8 x3, .int .u8 x4, .int .u8 x5, .int .u8 x6, .int .u8 x7, .int .u8 x8, .int .u8 x9, .int .u8 x10, .int .u8 x11, .int .u8 x12, .int .u8 x13, .int .u8 x14, .int .u8 x15, .int .u8 x16, .int .u8 x17, .int .u8 x18, .int .u8 x19, .int .u8 x20, .int .u8 x21, .int .u8 x22, .int .u8 x23, .int .u8 x24], .slice td truth.length tcap, .pointer (some ⟨w.heap.size, 0, none⟩), s 3, r 4, .pointer (some ⟨B5, 0, none⟩), .pointer (some ⟨B6, 0, none⟩), .pointer (some ⟨B7, 0, none⟩), s 8, s 9, s 10, .slice la 9 lc, s 12, .int .i64 k, r 14, r 15, r 16, r 17, s 18, s 19, s 20, s 21, s 22, s 23, s 24, s 25, s 26, s 27, s 28, s 29, s 30, s 31, s 32, s 33, s 34, s 35, s 36, s 37, s 38, s 39, s 40, s 41, s 42, s 43, s 44, s 45, s 46, s 47, s 48, s 49, r 50, r 51, r 52, r 53, t54, t55, t56, t57, t58, t59, t60, t61, t62, r 63, r 64, r 65, r 66, r 67, r 68, r 69, r 70, r 71, r 72, r 73, r 74, r 75, r 76, r 77, r 78, r 79, r 80, r 81, r 82, r 83, r 84, r 85, r 86, r 87, r 88, r 89, r 90, r 91, r 92, r 93, r 94, r 95, r 96, r 97, r 98, r 99, r 100, r 101, r 102, r 103, r 104, r 105, r 106, r 107, r 108, r 109, r 110, r 111, r 112, r 113, r 114, r 115, r 116, r 117, r 118, r 119, r 120, r 121, r 122, r 123, r 124, r 125, r 126, r 127, r 128, r 129, r 130, r 131, r 132, r 133, r 134, r 135, r 136, r 137, r 138, r 139, r 140, r 141, r 142, r 143, r 144, r 145, r 146, r 147, r 148, r 149, r 150, r 151, r 152, r 153, r 154, r 155, r 156, r 157, r 158, r 159, r 160, r 161, r 162, r 163, r 164, r 165, r 166, r 167, r 168, r 169, r 170, r 171, r 172, r 173, r 174, r 175, r 176, r 177, r 178, r 179, r 180, r 181, r 182, r 183, r 184, r 185, r 186, undef, undef, undef, undef], []⟩ ∧ Gr wr v ∧ Fact listed 0 (t54 = .agg #[.slice a1 (storeP x0 x1 x2 x3 x4 x5 x6 x7 x8 x9 x10 x11).length ac1, .slice g1 (storeF x12 x13 x14 x15 x16 x17).length gc1]) ∧ Fact listed 1 (t55 = .agg #[.slice a2 ([0, 1, 2] : List Int).length ac2, .slice g2 ([0] : List Int).length gc2]) ∧ Fact listed 2 (t56 = .slice td truth.length tcap) ∧ Fact listed 3 (CByte 0 v t57) ∧ Fact listed 4 (CByte 255 v t58) ∧ Fact listed 5 (CThree td truth tcap v t59) ∧ Fact listed 6 (t60 = .int .i64 k) ∧ Fact listed 7 (CPick k v t61) ∧ Fact listed 8 (CCal (thickL false (storeP x0 x1 x2 x3 x4 x5 x6 x7 x8 x9 x10 x11) (storeF x12 x13 x14 x15 x16 x17) [0, 1, 2] [0]) (thickL true (storeP x0 x1 x2 x3 x4 x5 x6 x7 x8 x9 x10 x11) (storeF x12 x13 x14 x15 x16 x17) [0, 1, 2] [0]) k t62)) (by kernel_rfl) (by kernel_rfl) (by kernel_rfl) ?init3 ?step3 ?fin3
            case init3 =>
              exact ⟨(fun l : List Value => fun i => l.getD i undef) [undef, undef, undef, undef, _, undef, undef, undef, undef, undef, undef, undef, undef, undef, _, _, _, _, undef, undef, undef, undef, undef, undef, undef, undef, undef, undef, undef, undef, undef, undef, undef, undef, undef, undef, undef, undef, undef, undef, undef, undef, undef, undef, undef, undef, undef, undef, undef, undef, _, _, _, _, undef, undef, undef, undef, undef, undef, undef, undef, undef, _, _, _, _, _, _, _, _, _, _, _, _, _, _, _, _, _, _, _, _, _, _, _, _, _, _, _, _, _, _, _, _, _, _, _, _, _, _, _, _, _, _, _, _, _, _, _, _, _, _, _, _, _, _, _, _, _, _, _, _, _, _, _, _, _, _, _, _, _, _, _, _, _, _, _, _, _, _, _, _, _, _, _, _, _, _, _, _, _, _, _, _, _, _, _, _, _, _, _, _, _, _, _, _, _, _, _, _, _, _, _, _, _, _, _, _, _, _, _, _, _, _, _, _, undef, undef, undef, undef], _, _, _, _, _, _, _, _, _, by rfl, Gr.dr wr, Fact.no _ _ _, Fact.no _ _ _, Fact.no _ _ _, Fact.no _ _ _, Fact.no _ _ _, Fact.no _ _ _, Fact.no _ _ _, Fact.no _ _ _, Fact.no _ _ _⟩
            case step3 => as_aux_lemma =>
              rintro i hi listed a v hun hdep ⟨r, t54, t55, t56, t57, t58, t59, t60, t61, t62, rfl, gv, f0, f1, f2, f3, f4, f5, f6, f7, f8⟩
              have hi8 : i = 0 ∨ i = 1 ∨ i = 2 ∨ i = 3 ∨ i = 4 ∨ i = 5 ∨ i = 6 ∨ i = 7 ∨ i = 8 := by omega
              rcases hi8 with rfl | rfl | rfl | rfl | rfl | rfl | rfl | rfl | rfl
              · clear hdep
                refine wpOp_step rfl (fun K' hK => ?_)
                rw [if_pos (by rfl)]
                refine wp_load_mid 33 _ rfl B5 0 (by rfl) [.slice a1 (storeP x0 x1 x2 x3 x4 x5 x6 x7 x8 x9 x10 x11).length ac1, .slice g1 (storeF x12 x13 x14 x15 x16 x17).length gc1] _ (fun j u hu => by rw [Nat.zero_add]; exact (b5.keep gv).2 j u hu) Try.underlying33 rfl (by kernel_rfl) ?_
                exact hK _ _ ⟨r, _, t55, t56, t57, t58, t59, t60, t61, t62, by rfl, gv, Fact.lay (rfl), f1.keep (by decide), f2.keep (by decide), f3.keep (by decide), f4.keep (by decide), f5.keep (by decide), f6.keep (by decide), f7.keep (by decide), f8.keep (by decide)⟩
              · clear hdep
                refine wpOp_step rfl (fun K' hK => ?_)
                rw [if_pos (by rfl)]
                refine wp_load_mid 37 _ rfl B6 0 (by rfl) [.slice a2 ([0, 1, 2] : List Int).length ac2, .slice g2 ([0] : List Int).length gc2] _ (fun j u hu => by rw [Nat.zero_add]; exact (b6.keep gv).2 j u hu) Try.underlying37 rfl (by kernel_rfl) ?_
                exact hK _ _ ⟨r, t54, _, t56, t57, t58, t59, t60, t61, t62, by rfl, gv, f0.keep (by decide), Fact.lay (rfl), f2.keep (by decide), f3.keep (by decide), f4.keep (by decide), f5.keep (by decide), f6.keep (by decide), f7.keep (by decide), f8.keep (by decide)⟩
              · clear hdep
                refine wpOp_step rfl (fun K' hK => ?_)
                go_simp
                exact hK _ _ ⟨r, t54, t55, _, t57, t58, t59, t60, t61, t62, by rfl, gv, f0.keep (by decide), f1.keep (by decide), Fact.lay (rfl), f3.keep (by decide), f4.keep (by decide), f5.keep (by decide), f6.keep (by decide), f7.keep (by decide), f8.keep (by decide)⟩
              · clear hdep
                refine wpOp_step rfl (fun K' hK => ?_)
                go_simp
                have hg := Gr.al v (.cells #[.int .u8 0] 5)
                have hr : URow (v.alloc (.cells #[.int .u8 0] 5)) (some ⟨v.heap.size, 0, none⟩) [0] := RowOf.lit (enc := encU) (sz := 1) (fun _ => rfl) v 5 [0] (by simp) _ (by rfl) v.heap.size rfl
                exact hK _ _ ⟨r, t54, t55, t56, _, t58, t59, t60, t61, t62, by rfl, gv.tr hg, f0.keep (by decide), f1.keep (by decide), f2.keep (by decide), Fact.lay (⟨_, _, rfl, hr⟩), (f4.keep (by decide)).map (fun h => h.up hg), (f5.keep (by decide)).map (fun h => h.up hg), f6.keep (by decide), (f7.keep (by decide)).map (fun h => h.up hg), f8.keep (by decide)⟩
              · clear hdep
                refine wpOp_step rfl (fun K' hK => ?_)
                go_simp
                have hg := Gr.al v (.cells #[.int .u8 255] 5)
                have hr : URow (v.alloc (.cells #[.int .u8 255] 5)) (some ⟨v.heap.size, 0, none⟩) [255] := RowOf.lit (enc := encU) (sz := 1) (fun _ => rfl) v 5 [255] (by simp) _ (by rfl) v.heap.size rfl
                exact hK _ _ ⟨r, t54, t55, t56, t57, _, t59, t60, t61, t62, by rfl, gv.tr hg, f0.keep (by decide), f1.keep (by decide), f2.keep (by decide), (f3.keep (by decide)).map (fun h => h.up hg), Fact.lay (⟨_, _, rfl, hr⟩), (f5.keep (by decide)).map (fun h => h.up hg), f6.keep (by decide), (f7.keep (by decide)).map (fun h => h.up hg), f8.keep (by decide)⟩
              · have d2 := f2 (hdep 2 (by simp))
                obtain ⟨a57, c57, rfl, r57⟩ := f3 (hdep 3 (by simp))
                obtain ⟨a58, c58, rfl, r58⟩ := f4 (hdep 4 (by simp))
                subst d2
                clear hdep
                refine wpOp_step rfl (fun K' hK => ?_)
                go_simp
                exact hK _ _ ⟨r, t54, t55, _, _, _, _, t60, t61, t62, by rfl, gv, f0.keep (by decide), f1.keep (by decide), f2.keep (by decide), f3.keep (by decide), f4.keep (by decide), Fact.lay (⟨_, _, _, _, rfl, r57, r58⟩), f6.keep (by decide), f7.keep (by decide), f8.keep (by decide)⟩
              · clear hdep
                refine wpOp_step rfl (fun K' hK => ?_)
                go_simp
                exact hK _ _ ⟨r, t54, t55, t56, t57, t58, t59, _, t61, t62, by rfl, gv, f0.keep (by decide), f1.keep (by decide), f2.keep (by decide), f3.keep (by decide), f4.keep (by decide), f5.keep (by decide), Fact.lay (rfl), f7.keep (by decide), f8.keep (by decide)⟩
              · obtain ⟨a57, c57, a58, c58, rfl, r57, r58⟩ := f5 (hdep 5 (by simp))
                have d6 := f6 (hdep 6 (by simp))
                subst d6
                clear hdep
                have hk3 : k = 0 ∨ k = 1 ∨ k = 2 := by omega
                rcases hk3 with rfl | rfl | rfl
                · refine wpOp_step rfl (fun K' hK => ?_)
                  go_simp
                  exact hK _ _ ⟨r, t54, t55, t56, t57, t58, _, _, _, t62, by rfl, gv, f0.keep (by decide), f1.keep (by decide), f2.keep (by decide), f3.keep (by decide), f4.keep (by decide), f5.keep (by decide), f6.keep (by decide), Fact.lay (⟨truth, td, tcap, rfl, ht.grow ((gT.tr gR).tr gv), hT, by omega, by omega⟩), f8.keep (by decide)⟩
                · refine wpOp_step rfl (fun K' hK => ?_)
                  go_simp
                  exact hK _ _ ⟨r, t54, t55, t56, t57, t58, _, _, _, t62, by rfl, gv, f0.keep (by decide), f1.keep (by decide), f2.keep (by decide), f3.keep (by decide), f4.keep (by decide), f5.keep (by decide), f6.keep (by decide), Fact.lay (⟨[0], a57, c57, rfl, r57, bytes_one (by omega) (by omega), fun _ => rfl, by omega⟩), f8.keep (by decide)⟩
                · refine wpOp_step rfl (fun K' hK => ?_)
                  go_simp
                  exact hK _ _ ⟨r, t54, t55, t56, t57, t58, _, _, _, t62, by rfl, gv, f0.keep (by decide), f1.keep (by decide), f2.keep (by decide), f3.keep (by decide), f4.keep (by decide), f5.keep (by decide), f6.keep (by decide), Fact.lay (⟨[255], a58, c58, rfl, r58, bytes_one (by omega) (by omega), by omega, fun _ => rfl⟩), f8.keep (by decide)⟩
              · have d0 := f0 (hdep 0 (by simp))
                have d1 := f1 (hdep 1 (by simp))
                obtain ⟨l61, a61, c61, rfl, r61, hb61, e61, z61⟩ := f7 (hdep 7 (by simp))
                subst d0 d1
                clear hdep
                refine wpOp_step rfl (fun K' hK => ?_)
                go_simp
                refine (pubCaliper_any (storeP x0 x1 x2 x3 x4 x5 x6 x7 x8 x9 x10 x11) (storeF x12 x13 x14 x15 x16 x17) [0, 1, 2] [0] l61 (fine_of_made HM.out) hb61 _ _ _ _ _ _ _ _ _ _ v (rp1.grow (gR.tr gv)) (rf1.grow (gR.tr gv)) (ra1.grow (gR.tr gv)) (rg1.grow (gR.tr gv)) r61).mono ?_
                rintro e v' ⟨rfl, hg⟩
                exact hK _ _ ⟨r, _, _, t56, t57, t58, t59, t60, _, _, by rfl, gv.tr hg, f0.keep (by decide), f1.keep (by decide), f2.keep (by decide), (f3.keep (by decide)).map (fun h => h.up hg), (f4.keep (by decide)).map (fun h => h.up hg), (f5.keep (by decide)).map (fun h => h.up hg), f6.keep (by decide), (f7.keep (by decide)).map (fun h => h.up hg), Fact.lay (CCal.mk (fine_of_made HM.out) hb61 e61 z61)⟩
            case fin3 =>
              rintro listed a v hls hall ⟨r, t54, t55, t56, t57, t58, t59, t60, t61, t62, rfl, gv, f0, f1, f2, f3, f4, f5, f6, f7, f8⟩
              obtain ⟨t, rfl, hlo, hhi, hk1, hk2⟩ := f8.now hall hls (by omega)
              clear f0 f1 f2 f3 f4 f5 f6 f7 f8 hall hls b5 b6
              show wpList _ _ _ (List.drop 9 _) _ _
              simp only [List.drop_succ_cons, List.drop_zero]
              have g0 := gR.tr gv
              have g9 := gT.tr g0
              obtain ⟨okL, okH⟩ := okSpan_ends HTK.out
              have HG : GoodB (x20 % 50) (40 + x21) (x24 % 21) [bxLong x18 0, bxWide x19 0, bxLong x18 0, bxWide x19 0] [bxFlap x19 x22, bxFlap x19 x22] [bxFlap x19 x22, bxFlap x19 x22 + x23 % 4] false := HGB.out
              have r1 : IRow v pa [bxLong x18 0, bxWide x19 0, bxLong x18 0, bxWide x19 0] := rpa1.grow g0
              have r2 : IRow v ta [bxFlap x19 x22, bxFlap x19 x22] := rta1.grow g0
              have r3 : IRow v ba [bxFlap x19 x22, bxFlap x19 x22 + x23 % 4] := rba1.grow g0
              have r4 : SRow v la (innerL 0 (40 + x21) [bxLong x18 0, bxWide x19 0, bxLong x18 0, bxWide x19 0] [bxFlap x19 x22, bxFlap x19 x22] [bxFlap x19 x22, bxFlap x19 x22 + x23 % 4] false (thickL false (storeP x0 x1 x2 x3 x4 x5 x6 x7 x8 x9 x10 x11) (storeF x12 x13 x14 x15 x16 x17) [0, 1, 2] [0]) (thickL true (storeP x0 x1 x2 x3 x4 x5 x6 x7 x8 x9 x10 x11) (storeF x12 x13 x14 x15 x16 x17) [0, 1, 2] [0]) 9) := hrl.grow g0
              have e1 : v.cell? ⟨B7, 1, none⟩ = some (.slice pa 4 pc) := (c7.keep g0).2 1 _ rfl
              have e2 : v.cell? ⟨B7, 2, none⟩ = some (.int .i64 (40 + x21)) := (c7.keep g0).2 2 _ rfl
              have e3 : v.cell? ⟨B7, 3, none⟩ = some (.slice ta 2 tc) := (c7.keep g0).2 3 _ rfl
              have e4 : v.cell? ⟨B7, 4, none⟩ = some (.slice ba 2 bc) := (c7.keep g0).2 4 _ rfl
              generalize (thickL false (storeP x0 x1 x2 x3 x4 x5 x6 x7 x8 x9 x10 x11) (storeF x12 x13 x14 x15 x16 x17) [0, 1, 2] [0]) = cl at r4 hlo hhi hk1 hk2 okL okH
              generalize (thickL true (storeP x0 x1 x2 x3 x4 x5 x6 x7 x8 x9 x10 x11) (storeF x12 x13 x14 x15 x16 x17) [0, 1, 2] [0]) = ch at r4 hlo hhi hk1 hk2 okL okH
              generalize bxFlap x19 x22 + x23 % 4 = q3 at r3 r4 HG
              generalize bxFlap x19 x22 = q2 at r2 r3 r4 HG
              generalize bxLong x18 0 = q0 at r1 r4 HG
              generalize bxWide x19 0 = q1 at r1 r4 HG
              generalize 40 + x21 = qh at e2 r4 HG
              have a0 := in_at HG.gpan (k := 0) (x := q0) rfl
              have a1 := in_at HG.gpan (k := 1) (x := q1) rfl
              have ah := in_one HG.ghei
              have b0 := in_at HG.gtop (k := 0) (x := q2) rfl
              have b1 := in_at HG.gbot (k := 1) (x := q3) rfl
              obtain ⟨bp, op, rfl, p0, p1, p2, p3⟩ := r1.four
              obtain ⟨bt, ot, rfl, f0, f1⟩ := r2.two
              obtain ⟨bb, ob, rfl, y0, y1⟩ := r3.two
              go_upto_region 11 with fail
              clear e1 HM HGB HTK H0 H1 c5 c6 c7 rp1 rf1 ra1 rg1 rpa1 rta1 rba1 hrl r1 r2 r3 Hlb lb5 lb6 lb7 ht hT
              simp only [List.append_eq, List.cons_append, List.nil_append]
              have z2 := From.keep e2
              have z3 := From.keep e3
              have z4 := From.keep e4
              have z5 := From.keep p0
              have z6 := From.keep p1
              have z7 := From.keep p2
              have z8 := From.keep p3
              have z9 := From.keep f0
              have z10 := From.keep f1
              have z11 := From.keep y0
              have z12 := From.keep y1
              clear e2 e3 e4 p0 p1 p2 p3 f0 f1 y0 y1
              refine wp_region_reads (fun w' => ∃ u : From v, w' = u.val) 79 (by kernel_rfl) (by kernel_rfl) (fun d _ _ _ _ h => by cases d <;> exact h) ⟨⟨v.drew, Gr.dr v⟩, rfl⟩ ?_
              simp only [List.take_succ_cons, List.take_zero]
              repeat (go_big_quiet_step (fail))
              refine wpQuiet_nil ?_
              clear z2 z3 z4 z5 z6 z7 z8 z9 z10 z11 z12
              refine wpOp_step rfl (fun K' hK => ?_)
              go_simp
              have gA := (Gr.dr v).tr (Gr.al v.drew (.cells #[.int .i64 0, .int .i64 0, .int .i64 0, .int .i64 0, .int .i64 0, .int .i64 0, .int .i64 0, .int .i64 0, .int .i64 0] 55))
              refine hK _ _ ⟨⟨⟨_, gA⟩, rfl⟩, ?_⟩
              have o16 := Own.new v.drew [.int .i64 0, .int .i64 0, .int .i64 0, .int .i64 0, .int .i64 0, .int .i64 0, .int .i64 0, .int .i64 0, .int .i64 0] 55 v.drew.heap.size rfl
              have x0_ := o16.1.2 0 _ rfl
              have x1_ := o16.1.2 1 _ rfl
              have x2_ := o16.1.2 2 _ rfl
              have x3_ := o16.1.2 3 _ rfl
              have x4_ := o16.1.2 4 _ rfl
              have x5_ := o16.1.2 5 _ rfl
              have x6_ := o16.1.2 6 _ rfl
              have x7_ := o16.1.2 7 _ rfl
              have x8_ := o16.1.2 8 _ rfl
              have y0_ := o16.2 0
              have y1_ := o16.2 1
              have y2_ := o16.2 2
              have y3_ := o16.2 3
              have y4_ := o16.2 4
              have y5_ := o16.2 5
              have y6_ := o16.2 6
              have y7_ := o16.2 7
              have y8_ := o16.2 8
              show wpList _ _ _ (List.drop 80 _) _ _
              simp only [List.drop_succ_cons, List.drop_zero]
              go_upto_region 12 with fail
              clear x0_ x1_ x2_ x3_ x4_ x5_ x6_ x7_ x8_ y0_ y1_ y2_ y3_ y4_ y5_ y6_ y7_ y8_ o16
              refine wp_abs (fun X => Gr v X ∧ Box X v.heap.size ((dueL qh q0 q1 q0 q1 q2 q2 q2 q3 t).map (Value.int .i64))) ⟨(Gr.al v (.cells #[.int .i64 (1000 * q0 - t), .int .i64 (1000 * q1 - t), .int .i64 (1000 * q0 - t), .int .i64 (1000 * q1 - t), .int .i64 (1000 * qh - 2 * t), .int .i64 (1000 * q1 - t - 2000 * q2), .int .i64 (1000 * q0 - t - 2000 * q2), .int .i64 (1000 * q1 - t - 2000 * q2), .int .i64 (1000 * q0 - t - 2000 * q3)] 55)).tr (Gr.dr _), (Box.new v [.int .i64 (1000 * q0 - t), .int .i64 (1000 * q1 - t), .int .i64 (1000 * q0 - t), .int .i64 (1000 * q1 - t), .int .i64 (1000 * qh - 2 * t), .int .i64 (1000 * q1 - t - 2000 * q2), .int .i64 (1000 * q0 - t - 2000 * q2), .int .i64 (1000 * q1 - t - 2000 * q2), .int .i64 (1000 * q0 - t - 2000 * q3)] 55 v.heap.size rfl).keep (Gr.dr _)⟩ ?_
              clear gA
              rintro X ⟨gX, hD⟩
              have r5 := r4.grow gX
              go_wp2_with fail
              go_loopw [17] (fun i wr' => ∃ j : Nat, j ≤ 9 ∧ i = .int .i64 j ∧ Gr X wr') (fun i wr' => 9 - (intOf i).toNat)
              case atStart => exact ⟨0, by omega, rfl, Below.refl _ _⟩
              case round =>
                obtain ⟨j, hj, rfl, gJ⟩ := hrel
                by_cases hlt9 : j < 9
                · obtain ⟨d, ⟨slo, shi⟩, hd, hsp, hin, hA, hB⟩ := due_at HG hlo hhi hlt9
                  dsimp only at hin hA hB
                  obtain ⟨bl, ol, rfl, hbl, s0, s1⟩ := SRow.get (r5.grow gJ) hsp
                  dsimp only at s0 s1
                  have k0 := (hD.keep gJ).2 j (.int .i64 d) (by simp [hd])
                  have hjI : (j : Int) < 9 := by omega
                  go_upto_region 15 with fail
                  have hk3 : k = 0 ∨ k = 1 ∨ k = 2 := by omega
                  rcases hk3 with rfl | rfl | rfl
                  · as_aux_lemma =>
                    skip
                    have z0 := From.keep s0
                    have z1 := From.keep s1
                    have z2 := From.keep k0
                    refine wp_region_gr (by kernel_rfl) (by kernel_rfl) ?_
                    repeat (go_big_quiet_step ((go_at_call 15; exact Calls.gr (pubHas_any _ _ _ true hin _))))
                    refine wpQuiet_nil ?_
                    rintro _ ⟨u, rfl⟩
                    clear z0 z1 z2
                    go_wp2_with fail
                    go_roundw
                    case rel => exact ⟨j + 1, by omega, by go_num, gJ.tr u.property⟩
                    case measure => simp [intOf]; omega
                  · as_aux_lemma =>
                    have eA := hA (hk1 rfl)
                    subst eA
                    have z0 := From.keep s0
                    have z1 := From.keep s1
                    have z2 := From.keep k0
                    refine wp_region_gr (by kernel_rfl) (by kernel_rfl) ?_
                    repeat (go_big_quiet_step ((go_at_call 15; exact Calls.gr (pubHas_any _ _ _ true hin _))))
                    refine wpQuiet_nil ?_
                    rintro _ ⟨u, rfl⟩
                    clear z0 z1 z2
                    go_wp2_with fail
                    go_roundw
                    case rel => exact ⟨j + 1, by omega, by go_num, gJ.tr u.property⟩
                    case measure => simp [intOf]; omega
                  · as_aux_lemma =>
                    have eB := hB (hk2 rfl)
                    subst eB
                    have z0 := From.keep s0
                    have z1 := From.keep s1
                    have z2 := From.keep k0
                    refine wp_region_gr (by kernel_rfl) (by kernel_rfl) ?_
                    repeat (go_big_quiet_step ((go_at_call 15; exact Calls.gr (pubHas_any _ _ _ true hin _))))
                    refine wpQuiet_nil ?_
                    rintro _ ⟨u, rfl⟩
                    clear z0 z1 z2
                    go_wp2_with fail
                    go_roundw
                    case rel => exact ⟨j + 1, by omega, by go_num, gJ.tr u.property⟩
                    case measure => simp [intOf]; omega
                · obtain rfl : j = 9 := by omega
                  go_wp2_with fail
                  go_roundw
                  case rel =>
                    first
                      | exact Lib.hid ⟨k + 1, by omega, by go_num, (gR.tr gv).tr (gX.tr gJ)⟩
                      | exact Lib.hid ⟨k + 1, by omega, rfl, (gR.tr gv).tr (gX.tr gJ)⟩
                  case measure => simp [intOf]; omega
          · obtain rfl : k = 3 := by omega
            go_wp2_with (first
              | (go_at_call 16; (refine (pubBoard_any _).mono ?_); rintro e w8 ⟨rfl, h8⟩)
              | (go_at_call 17; (refine (pubScore_any _).mono ?_); rintro e w9 ⟨rfl, h9⟩))
            go_ret
            exact ⟨rfl, gT.tr (gR.tr (h8.tr h9))⟩

end Go.Proofs.Ytbohjmogpiaejaa
