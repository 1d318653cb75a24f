/- TopThinnerBoard's own body. (Made by gen_t2.py.) -/
import Derived.Test.YtbohjmogpiaejaaR3
import Derived.Test.YtbohjmogpiaejaaR4
import Derived.Test.YtbohjmogpiaejaaV7
import Derived.Test.YtbohjmogpiaejaaT1
import Derived.Test.YtbohjmogpiaejaaV8
namespace Go.Proofs.Ytbohjmogpiaejaa
open Go.RowKit

set_option maxRecDepth 100000 in
set_option maxHeartbeats 4000000 in
theorem thinner_any (x0 x1 x2 x3 x4 x5 x6 x7 x8 x9 x10 x11 x12 x13 x14 x15 x16 x17 x18 x19 x20 x21 x22 x23 x24 : Int) (y0 y1 y2 : Int) (hb0 : ∀ n ∈ [x0, x1, x2, x3, x4, x5, x6, x7, x8, x9, x10, x11, x12, x13, x14, x15, x16, x17], Byt n) (hb1 : ∀ n ∈ [x18, x19, x20, x21, x22, x23, x24], Byt n) (hy : ∀ n ∈ [y0, y1, y2], Byt n) (HM1 : Hid (madeL (storeP x0 x1 x2 x3 x4 x5 x6 x7 x8 x9 x10 x11) (storeF x12 x13 x14 x15 x16 x17) [0, 1, 2] [0] = 0)) (HM2 : Hid (madeL (storeP x0 x1 x2 x3 x4 x5 x6 x7 x8 x9 x10 x11) (storeF x12 x13 x14 x15 x16 x17) [0, 1, 2, 1, 0] [0, 1] = 0))
    (HGB : Hid (GoodB (x20 % 50) (40 + x21) (x24 % 21) (bxPan x18 x19 0) (bxTop x19 x22) (bxBot x19 x22 x23) false)) (HK1 : Hid (okSpan 1 10000 (thickL false (storeP x0 x1 x2 x3 x4 x5 x6 x7 x8 x9 x10 x11) (storeF x12 x13 x14 x15 x16 x17) [0, 1, 2] [0]) (thickL true (storeP x0 x1 x2 x3 x4 x5 x6 x7 x8 x9 x10 x11) (storeF x12 x13 x14 x15 x16 x17) [0, 1, 2] [0]) = true)) (HK2 : Hid (okSpan 1 10000 (thickL false (storeP x0 x1 x2 x3 x4 x5 x6 x7 x8 x9 x10 x11) (storeF x12 x13 x14 x15 x16 x17) [0, 1, 2, 1, 0] [0, 1]) (thickL true (storeP x0 x1 x2 x3 x4 x5 x6 x7 x8 x9 x10 x11) (storeF x12 x13 x14 x15 x16 x17) [0, 1, 2, 1, 0] [0, 1]) = true)) (HML : Hid ((moistL false (storeP x0 x1 x2 x3 x4 x5 x6 x7 x8 x9 x10 x11) (storeF x12 x13 x14 x15 x16 x17) [0, 1, 2] [0]) ≤ (moistL false (storeP x0 x1 x2 x3 x4 x5 x6 x7 x8 x9 x10 x11) (storeF x12 x13 x14 x15 x16 x17) [0, 1, 2, 1, 0] [0, 1]))) (HMH : Hid ((moistL true (storeP x0 x1 x2 x3 x4 x5 x6 x7 x8 x9 x10 x11) (storeF x12 x13 x14 x15 x16 x17) [0, 1, 2] [0]) ≤ (moistL true (storeP x0 x1 x2 x3 x4 x5 x6 x7 x8 x9 x10 x11) (storeF x12 x13 x14 x15 x16 x17) [0, 1, 2, 1, 0] [0, 1]))) (HTL : Hid ((thickL false (storeP x0 x1 x2 x3 x4 x5 x6 x7 x8 x9 x10 x11) (storeF x12 x13 x14 x15 x16 x17) [0, 1, 2] [0]) ≤ (thickL false (storeP x0 x1 x2 x3 x4 x5 x6 x7 x8 x9 x10 x11) (storeF x12 x13 x14 x15 x16 x17) [0, 1, 2, 1, 0] [0, 1]))) (HTH : Hid ((thickL true (storeP x0 x1 x2 x3 x4 x5 x6 x7 x8 x9 x10 x11) (storeF x12 x13 x14 x15 x16 x17) [0, 1, 2] [0]) ≤ (thickL true (storeP x0 x1 x2 x3 x4 x5 x6 x7 x8 x9 x10 x11) (storeF x12 x13 x14 x15 x16 x17) [0, 1, 2, 1, 0] [0, 1]))) (w : World) :
    Calls Try.prog 5 #[.agg #[.int .u8 x0, .int .u8 x1, .int .u8 x2, .int .u8 x3, .int .u8 x4, .int .u8 x5, .int .u8 x6, .int .u8 x7, .int .u8 x8, .int .u8 x9, .int .u8 x10, .int .u8 x11, .int .u8 x12, .int .u8 x13, .int .u8 x14, .int .u8 x15, .int .u8 x16, .int .u8 x17, .int .u8 x18, .int .u8 x19, .int .u8 x20, .int .u8 x21, .int .u8 x22, .int .u8 x23, .int .u8 x24], .agg #[.int .u8 y0, .int .u8 y1, .int .u8 y2]] w fun e w' => e = .returned (.bool true) ∧ Gr w w' := by
  have gg := (Gr.al w (.cells #[.int .u8 x0, .int .u8 x1, .int .u8 x2, .int .u8 x3, .int .u8 x4, .int .u8 x5, .int .u8 x6, .int .u8 x7, .int .u8 x8, .int .u8 x9, .int .u8 x10, .int .u8 x11, .int .u8 x12, .int .u8 x13, .int .u8 x14, .int .u8 x15, .int .u8 x16, .int .u8 x17, .int .u8 x18, .int .u8 x19, .int .u8 x20, .int .u8 x21, .int .u8 x22, .int .u8 x23, .int .u8 x24] 28)).tr (Gr.al _ (.cells #[.int .u8 y0, .int .u8 y1, .int .u8 y2] 24))
  have hx := (Box.new w [.int .u8 x0, .int .u8 x1, .int .u8 x2, .int .u8 x3, .int .u8 x4, .int .u8 x5, .int .u8 x6, .int .u8 x7, .int .u8 x8, .int .u8 x9, .int .u8 x10, .int .u8 x11, .int .u8 x12, .int .u8 x13, .int .u8 x14, .int .u8 x15, .int .u8 x16, .int .u8 x17, .int .u8 x18, .int .u8 x19, .int .u8 x20, .int .u8 x21, .int .u8 x22, .int .u8 x23, .int .u8 x24] 28 w.heap.size rfl).keep (Gr.al _ (.cells #[.int .u8 y0, .int .u8 y1, .int .u8 y2] 24))
  have hth := Box.new (w.alloc (.cells #[.int .u8 x0, .int .u8 x1, .int .u8 x2, .int .u8 x3, .int .u8 x4, .int .u8 x5, .int .u8 x6, .int .u8 x7, .int .u8 x8, .int .u8 x9, .int .u8 x10, .int .u8 x11, .int .u8 x12, .int .u8 x13, .int .u8 x14, .int .u8 x15, .int .u8 x16, .int .u8 x17, .int .u8 x18, .int .u8 x19, .int .u8 x20, .int .u8 x21, .int .u8 x22, .int .u8 x23, .int .u8 x24] 28)) [.int .u8 y0, .int .u8 y1, .int .u8 y2] 24 (w.heap.size + 1) (by simp)
  have H0 := Lib.hid hb0
  have H1 := Lib.hid hb1
  have HY := Lib.hid hy
  clear hb0 hb1 hy
  go_enter Try.func5, Try.ntmps5
  go_upto_region 1 with fail
  refine wp_abs (fun W => Gr w W ∧ Box W w.heap.size [.int .u8 x0, .int .u8 x1, .int .u8 x2, .int .u8 x3, .int .u8 x4, .int .u8 x5, .int .u8 x6, .int .u8 x7, .int .u8 x8, .int .u8 x9, .int .u8 x10, .int .u8 x11, .int .u8 x12, .int .u8 x13, .int .u8 x14, .int .u8 x15, .int .u8 x16, .int .u8 x17, .int .u8 x18, .int .u8 x19, .int .u8 x20, .int .u8 x21, .int .u8 x22, .int .u8 x23, .int .u8 x24] ∧ Box W (w.heap.size + 1) [.int .u8 y0, .int .u8 y1, .int .u8 y2]) ⟨gg, hx, hth⟩ ?_
  clear gg hx hth
  rintro W ⟨gg, hx, hth⟩
  refine wp_region_inv' 6 [(1, 0), (3, 2)] (fun a0 listed a v => ∃ (t25 t26 t27 t28 t5 t6 : Value) (A : List (Option Addr)) (Bs : List Nat), a = ⟨#[.agg #[.int .u8 x0, .int .u8 x1, .int .u8 x2, .int .u8 x3, .int .u8 x4, .int .u8 x5, .int .u8 x6, .int .u8 x7, .int .u8 x8, .int .u8 x9, .int .u8 x10, .int .u8 x11, .int .u8 x12, .int .u8 x13, .int .u8 x14, .int .u8 x15, .int .u8 x16, .int .u8 x17, .int .u8 x18, .int .u8 x19, .int .u8 x20, .int .u8 x21, .int .u8 x22, .int .u8 x23, .int .u8 x24], .agg #[.int .u8 y0, .int .u8 y1, .int .u8 y2], .pointer (some ⟨w.heap.size, 0, none⟩), .pointer (some ⟨w.heap.size + 1, 0, none⟩), .bool false, t5, t6, undef, undef, undef, undef, undef, undef, undef, undef, undef, undef, undef, undef, undef, undef, undef, undef, undef, undef, t25, t26, t27, t28, undef, undef, undef, undef, undef, undef, undef, undef, undef, undef, undef, undef, undef, undef, undef, undef, undef, undef, undef, undef, undef, undef, undef, undef, undef, undef, undef, undef, undef, undef, undef, undef, undef, undef, undef, undef, undef, undef, undef, undef, undef, undef, undef, undef, undef, undef, undef, undef, undef, undef, undef, undef, undef, undef, undef, undef, undef, undef, undef, undef, undef, undef, undef, undef, undef, undef, undef, undef, undef, undef, undef, undef, undef, undef, undef, undef, undef, undef, undef, undef, undef, undef, undef, undef, undef, undef, undef, undef, undef, undef, undef, undef, undef, undef, undef, undef, undef, undef, undef, undef, undef, undef, undef, undef, undef, undef, undef, undef, undef, undef, undef, undef, undef, undef, undef, undef, undef, undef, undef, undef, undef, undef, undef, undef, undef, undef, undef, undef, undef, undef, undef, undef, undef, undef, undef, undef, undef, undef, undef, undef, undef, undef, undef, undef, undef, undef, undef, undef, undef, undef, undef, undef, undef, undef, undef, undef, undef, undef, undef, undef, undef, undef, undef, undef, undef, undef, undef, undef, undef, undef, undef, undef, undef, undef, undef], []⟩ ∧ Sep W v A Bs ∧ Fact listed 0 (t25 = .agg #[.int .u8 x0, .int .u8 x1, .int .u8 x2, .int .u8 x3, .int .u8 x4, .int .u8 x5, .int .u8 x6, .int .u8 x7, .int .u8 x8, .int .u8 x9, .int .u8 x10, .int .u8 x11, .int .u8 x12, .int .u8 x13, .int .u8 x14, .int .u8 x15, .int .u8 x16, .int .u8 x17, .int .u8 x18, .int .u8 x19, .int .u8 x20, .int .u8 x21, .int .u8 x22, .int .u8 x23, .int .u8 x24]) ∧ Fact listed 1 (CStore (storeP x0 x1 x2 x3 x4 x5 x6 x7 x8 x9 x10 x11) (storeF x12 x13 x14 x15 x16 x17) v A t26) ∧ Fact listed 2 (t27 = .agg #[.int .u8 x0, .int .u8 x1, .int .u8 x2, .int .u8 x3, .int .u8 x4, .int .u8 x5, .int .u8 x6, .int .u8 x7, .int .u8 x8, .int .u8 x9, .int .u8 x10, .int .u8 x11, .int .u8 x12, .int .u8 x13, .int .u8 x14, .int .u8 x15, .int .u8 x16, .int .u8 x17, .int .u8 x18, .int .u8 x19, .int .u8 x20, .int .u8 x21, .int .u8 x22, .int .u8 x23, .int .u8 x24]) ∧ Fact listed 3 (CBlank (x20 % 50) (40 + x21) (x24 % 21) (bxPan x18 x19 0) (bxTop x19 x22) (bxBot x19 x22 x23) false v A t28) ∧ Fact listed 4 (CPtr [.slice none 0 0, .slice none 0 0] 33 v Bs t5) ∧ Fact listed 5 (CPtr [.int .i64 0, .slice none 0 0, .int .i64 0, .slice none 0 0, .slice none 0 0, .int .i64 0, .bool false] 40 v Bs t6)) (by kernel_rfl) (by kernel_rfl) (by kernel_rfl) ?init ?step ?fin
  case init => exact ⟨undef, undef, undef, undef, undef, undef, [], [], by rfl, ⟨Gr.dr W, by simp, by simp⟩, Fact.no _ _ _, Fact.no _ _ _, Fact.no _ _ _, Fact.no _ _ _, Fact.no _ _ _, Fact.no _ _ _⟩
  case step => as_aux_lemma =>
    rintro i hi listed a v hun hdep ⟨t25, t26, t27, t28, t5, t6, A, Bs, rfl, hsep, f0, f1, f2, f3, f4, f5⟩
    have hi8 : i = 0 ∨ i = 1 ∨ i = 2 ∨ i = 3 ∨ i = 4 ∨ i = 5 := by omega
    rcases hi8 with rfl | rfl | rfl | rfl | rfl | rfl
    · clear hdep
      refine wpOp_step rfl (fun K' hK => ?_)
      rw [if_pos (by rfl)]
      refine wp_load_mid 28 _ rfl w.heap.size 0 (by rfl) [.int .u8 x0, .int .u8 x1, .int .u8 x2, .int .u8 x3, .int .u8 x4, .int .u8 x5, .int .u8 x6, .int .u8 x7, .int .u8 x8, .int .u8 x9, .int .u8 x10, .int .u8 x11, .int .u8 x12, .int .u8 x13, .int .u8 x14, .int .u8 x15, .int .u8 x16, .int .u8 x17, .int .u8 x18, .int .u8 x19, .int .u8 x20, .int .u8 x21, .int .u8 x22, .int .u8 x23, .int .u8 x24] _ (fun j u hu => by rw [Nat.zero_add]; exact (hx.keep hsep.gr).2 j u hu) Try.underlying28 rfl (by kernel_rfl) ?_
      exact hK _ _ ⟨_, t26, t27, t28, t5, t6, A, Bs, by rfl, hsep, Fact.lay (rfl), f1.keep (by decide), f2.keep (by decide), f3.keep (by decide), f4.keep (by decide), f5.keep (by decide)⟩
    · have d0 := f0 (hdep 0 (by simp))
      clear hdep
      subst d0
      refine wpOp_step rfl (fun K' hK => ?_)
      go_simp
      refine (pubStore_any _ _ _ _ _ _ _ _ _ _ _ _ _ _ _ _ _ _ _ _ _ _ _ _ _ H0.out v).mono ?_
      rintro e v' ⟨a, ac, g, gc, rfl, hg, hr1, hr2, n1, n2⟩
      have s1 := hsep.call hg [a, g] (two_new n1 n2 (hr1.addr (by simp [storeP])) (hr2.addr (by simp [storeF])))
      exact hK _ _ ⟨_, _, t27, t28, t5, t6, _, Bs, by rfl, s1, f0.keep (by decide), Fact.lay (⟨a, ac, g, gc, rfl, hr1, hr2, by simp, by simp⟩), f2.keep (by decide), (f3.keep (by decide)).map (fun h => h.up hg (mem_app _ _)), (f4.keep (by decide)).map (fun h => h.up hg (mem_same _)), (f5.keep (by decide)).map (fun h => h.up hg (mem_same _))⟩
    · clear hdep
      refine wpOp_step rfl (fun K' hK => ?_)
      rw [if_pos (by rfl)]
      refine wp_load_mid 28 _ rfl w.heap.size 0 (by rfl) [.int .u8 x0, .int .u8 x1, .int .u8 x2, .int .u8 x3, .int .u8 x4, .int .u8 x5, .int .u8 x6, .int .u8 x7, .int .u8 x8, .int .u8 x9, .int .u8 x10, .int .u8 x11, .int .u8 x12, .int .u8 x13, .int .u8 x14, .int .u8 x15, .int .u8 x16, .int .u8 x17, .int .u8 x18, .int .u8 x19, .int .u8 x20, .int .u8 x21, .int .u8 x22, .int .u8 x23, .int .u8 x24] _ (fun j u hu => by rw [Nat.zero_add]; exact (hx.keep hsep.gr).2 j u hu) Try.underlying28 rfl (by kernel_rfl) ?_
      exact hK _ _ ⟨t25, t26, _, t28, t5, t6, A, Bs, by rfl, hsep, f0.keep (by decide), f1.keep (by decide), Fact.lay (rfl), f3.keep (by decide), f4.keep (by decide), f5.keep (by decide)⟩
    · have d0 := f2 (hdep 2 (by simp))
      clear hdep
      subst d0
      refine wpOp_step rfl (fun K' hK => ?_)
      go_simp
      have hpb := pubBox_any x0 x1 x2 x3 x4 x5 x6 x7 x8 x9 x10 x11 x12 x13 x14 x15 x16 x17 x18 x19 x20 x21 x22 x23 x24 0 (by omega) (by omega) (H1.out x18 (by simp)).1 (H1.out x18 (by simp)).2 (H1.out x19 (by simp)).1 (H1.out x19 (by simp)).2 (H1.out x20 (by simp)).1 (H1.out x20 (by simp)).2 (H1.out x21 (by simp)).1 (H1.out x21 (by simp)).2 (H1.out x22 (by simp)).1 (H1.out x22 (by simp)).2 (H1.out x23 (by simp)).1 (H1.out x23 (by simp)).2 (H1.out x24 (by simp)).1 (H1.out x24 (by simp)).2 v
      rw [show (40 + x21 + 0 : Int) = 40 + x21 from Int.add_zero _] at hpb
      refine hpb.mono ?_
      rintro e v' ⟨pa, pc, ta, tc, ba, bc, rfl, hg, hr1, hr2, hr3, n1, n2, n3⟩
      have s1 := hsep.call hg [pa, ta, ba] (three_new n1 n2 n3 (hr1.addr (by simp [bxPan])) (hr2.addr (by simp [bxTop])) (hr3.addr (by simp [bxBot])))
      exact hK _ _ ⟨t25, t26, _, _, t5, t6, _, Bs, by rfl, s1, f0.keep (by decide), (f1.keep (by decide)).map (fun h => h.up hg (mem_app _ _)), f2.keep (by decide), Fact.lay (⟨pa, pc, ta, tc, ba, bc, rfl, hr1, hr2, hr3, by simp, by simp, by simp⟩), (f4.keep (by decide)).map (fun h => h.up hg (mem_same _)), (f5.keep (by decide)).map (fun h => h.up hg (mem_same _))⟩
    · clear hdep
      refine wpOp_step rfl (fun K' hK => ?_)
      go_simp
      have hg := Gr.al v (.cells (List.toArray [.slice none 0 0, .slice none 0 0]) 33)
      have s1 := hsep.al (.cells (List.toArray [.slice none 0 0, .slice none 0 0]) 33)
      exact hK _ _ ⟨t25, t26, t27, t28, _, t6, A, _, by rfl, s1, f0.keep (by decide), (f1.keep (by decide)).map (fun h => h.up hg (mem_same _)), f2.keep (by decide), (f3.keep (by decide)).map (fun h => h.up hg (mem_same _)), Fact.lay (CPtr.new v [.slice none 0 0, .slice none 0 0] 33 Bs), (f5.keep (by decide)).map (fun h => h.up hg (mem_con _ _))⟩
    · clear hdep
      refine wpOp_step rfl (fun K' hK => ?_)
      go_simp
      have hg := Gr.al v (.cells (List.toArray [.int .i64 0, .slice none 0 0, .int .i64 0, .slice none 0 0, .slice none 0 0, .int .i64 0, .bool false]) 40)
      have s1 := hsep.al (.cells (List.toArray [.int .i64 0, .slice none 0 0, .int .i64 0, .slice none 0 0, .slice none 0 0, .int .i64 0, .bool false]) 40)
      exact hK _ _ ⟨t25, t26, t27, t28, t5, _, A, _, by rfl, s1, f0.keep (by decide), (f1.keep (by decide)).map (fun h => h.up hg (mem_same _)), f2.keep (by decide), (f3.keep (by decide)).map (fun h => h.up hg (mem_same _)), (f4.keep (by decide)).map (fun h => h.up hg (mem_con _ _)), Fact.lay (CPtr.new v [.int .i64 0, .slice none 0 0, .int .i64 0, .slice none 0 0, .slice none 0 0, .int .i64 0, .bool false] 40 Bs)⟩
  case fin =>
    rintro listed a v hls hall ⟨t25, t26, t27, t28, t5, t6, A, Bs, rfl, hsep, f0, f1, f2, f3, f4, f5⟩
    obtain ⟨a1, ac1, g1, gc1, rfl, rp, rf, m1, m2⟩ := f1.now hall hls (by omega)
    obtain ⟨pa, pc, ta, tc, ba, bc, rfl, rpa, rta, rba, m5, m6, m7⟩ := f3.now hall hls (by omega)
    obtain ⟨B5, rfl, k5, z5⟩ := f4.now hall hls (by omega)
    obtain ⟨B6, rfl, k6, z6⟩ := f5.now hall hls (by omega)
    have d0 := f0.now hall hls (by omega)
    have d2 := f2.now hall hls (by omega)
    subst d0 d2
    have n56 : B5 ≠ B6 := z5.ne z6 (by decide)
    have n65 := n56.symm
    have o5 := z5.own
    have o6 := z6.own
    have gv := gg.tr hsep.gr
    have l1 := hth.1
    have lb5 : w.heap.size ≤ B5 := Nat.le_trans gg.size (hsep.bs B5 k5).1
    have lb6 : w.heap.size ≤ B6 := Nat.le_trans gg.size (hsep.bs B6 k6).1
    have t5 : w.heap.size + 1 ≠ B5 := by have := (hsep.bs B5 k5).1; omega
    have t6 : w.heap.size + 1 ≠ B6 := by have := (hsep.bs B6 k6).1; omega
    have ht := hth.keep hsep.gr
    clear f0 f1 f2 f3 f4 f5 z5 z6 hall hls l1
    obtain ⟨u0, u1⟩ := o5.1.c2
    obtain ⟨u4, u5, u6, u7, u8, u9, u10⟩ := o6.1.c7
    have y0_ := o5.2 0
    have y1_ := o5.2 1
    have y4_ := o6.2 0
    have y5_ := o6.2 1
    have y6_ := o6.2 2
    have y7_ := o6.2 3
    have y8_ := o6.2 4
    have y9_ := o6.2 5
    have y10_ := o6.2 6
    have Hlb := Lib.hid (And.intro lb5 lb6)
    clear lb5 lb6
    show wpList _ _ _ (List.drop 6 _) _ _
    simp only [List.drop_succ_cons, List.drop_zero]
    go_upto_region 2 with fail
    clear u0 u1 u4 u5 u6 u7 u8 u9 u10 y0_ y1_ y4_ y5_ y6_ y7_ y8_ y9_ y10_
    obtain ⟨lb5, lb6⟩ := Hlb.out
    refine wp_abs (fun U => Gr w U ∧ Box U B5 [.slice a1 (storeP x0 x1 x2 x3 x4 x5 x6 x7 x8 x9 x10 x11).length ac1, .slice g1 (storeF x12 x13 x14 x15 x16 x17).length gc1] ∧ Box U B6 [.int .i64 (x20 % 50), .slice pa (bxPan x18 x19 0).length pc, .int .i64 (40 + x21), .slice ta (bxTop x19 x22).length tc, .slice ba (bxBot x19 x22 x23).length bc, .int .i64 (x24 % 21), .bool false] ∧ Box U (w.heap.size + 1) [.int .u8 y0, .int .u8 y1, .int .u8 y2] ∧ PRow U a1 (storeP x0 x1 x2 x3 x4 x5 x6 x7 x8 x9 x10 x11) ∧ FRow U g1 (storeF x12 x13 x14 x15 x16 x17) ∧ IRow U pa (bxPan x18 x19 0) ∧ IRow U ta (bxTop x19 x22) ∧ IRow U ba (bxBot x19 x22 x23))
      ⟨(((((((((gv.setCell (by simp only; omega) _).setCell (by simp only; omega) _).setCell (by simp only; omega) _).setCell (by simp only; omega) _).setCell (by simp only; omega) _).setCell (by simp only; omega) _).setCell (by simp only; omega) _).setCell (by simp only; omega) _).setCell (by simp only; omega) _), (((((((((o5.set (i := 0) (by simp)).set (i := 1) (by simp)).other n56).other n56).other n56).other n56).other n56).other n56).other n56).1, (((((((((o6.other n65).other n65).set (i := 0) (by simp)).set (i := 1) (by simp)).set (i := 2) (by simp)).set (i := 3) (by simp)).set (i := 4) (by simp)).set (i := 5) (by simp)).set (i := 6) (by simp)).1, (((((((((ht.other t5).other t5).other t6).other t6).other t6).other t6).other t6).other t6).other t6), (((((((((rp.setAt (hsep.apart m1 k5) _ _).setAt (hsep.apart m1 k5) _ _).setAt (hsep.apart m1 k6) _ _).setAt (hsep.apart m1 k6) _ _).setAt (hsep.apart m1 k6) _ _).setAt (hsep.apart m1 k6) _ _).setAt (hsep.apart m1 k6) _ _).setAt (hsep.apart m1 k6) _ _).setAt (hsep.apart m1 k6) _ _), (((((((((rf.setAt (hsep.apart m2 k5) _ _).setAt (hsep.apart m2 k5) _ _).setAt (hsep.apart m2 k6) _ _).setAt (hsep.apart m2 k6) _ _).setAt (hsep.apart m2 k6) _ _).setAt (hsep.apart m2 k6) _ _).setAt (hsep.apart m2 k6) _ _).setAt (hsep.apart m2 k6) _ _).setAt (hsep.apart m2 k6) _ _), (((((((((rpa.setAt (hsep.apart m5 k5) _ _).setAt (hsep.apart m5 k5) _ _).setAt (hsep.apart m5 k6) _ _).setAt (hsep.apart m5 k6) _ _).setAt (hsep.apart m5 k6) _ _).setAt (hsep.apart m5 k6) _ _).setAt (hsep.apart m5 k6) _ _).setAt (hsep.apart m5 k6) _ _).setAt (hsep.apart m5 k6) _ _), (((((((((rta.setAt (hsep.apart m6 k5) _ _).setAt (hsep.apart m6 k5) _ _).setAt (hsep.apart m6 k6) _ _).setAt (hsep.apart m6 k6) _ _).setAt (hsep.apart m6 k6) _ _).setAt (hsep.apart m6 k6) _ _).setAt (hsep.apart m6 k6) _ _).setAt (hsep.apart m6 k6) _ _).setAt (hsep.apart m6 k6) _ _), (((((((((rba.setAt (hsep.apart m7 k5) _ _).setAt (hsep.apart m7 k5) _ _).setAt (hsep.apart m7 k6) _ _).setAt (hsep.apart m7 k6) _ _).setAt (hsep.apart m7 k6) _ _).setAt (hsep.apart m7 k6) _ _).setAt (hsep.apart m7 k6) _ _).setAt (hsep.apart m7 k6) _ _).setAt (hsep.apart m7 k6) _ _)⟩ ?_
    clear gv n56 n65 o5 o6 rp rf rpa rta rba hsep hx gg hth ht t5 t6 m1 m2 m5 m6 m7 k5 k6 lb5 lb6 Hlb
    rintro U ⟨gU, b5, b6, bt, rp, rf, rpa, rta, rba⟩
    refine (show (∀ s : Nat → Value, Code.wp Try.prog _ _ ⟨#[s 0, s 1, s 2, .pointer (some ⟨w.heap.size + 1, 0, none⟩), .bool false, .pointer (some ⟨B5, 0, none⟩), .pointer (some ⟨B6, 0, none⟩), undef, undef, undef, undef, undef, undef, undef, undef, undef, undef, undef, undef, undef, undef, undef, undef, undef, undef, s 25, s 26, s 27, s 28, undef, undef, undef, undef, undef, undef, undef, undef, undef, undef, undef, undef, undef, undef, undef, undef, undef, undef, undef, undef, undef, undef, undef, undef, undef, undef, undef, undef, undef, undef, undef, undef, undef, undef, undef, undef, undef, undef, undef, undef, undef, undef, undef, undef, undef, undef, undef, undef, undef, undef, undef, undef, undef, undef, undef, undef, undef, undef, undef, undef, undef, undef, undef, undef, undef, undef, undef, undef, undef, undef, undef, undef, undef, undef, undef, undef, undef, undef, undef, undef, undef, undef, undef, undef, undef, undef, undef, undef, undef, undef, undef, undef, undef, undef, undef, undef, undef, undef, undef, undef, undef, undef, undef, undef, undef, undef, undef, undef, undef, undef, undef, undef, undef, undef, undef, undef, undef, undef, undef, undef, undef, undef, undef, undef, undef, undef, undef, undef, undef, undef, undef, undef, undef, undef, undef, undef, undef, undef, undef, undef, undef, undef, undef, undef, undef, undef, undef, undef, undef, undef, undef, undef, undef, undef, undef, undef, undef, undef, undef, undef, undef, undef, undef, undef, undef, undef, undef, undef, undef, undef, undef, undef, undef, undef, undef], []⟩ _) → _ from fun h => h ((fun l : List Value => fun i => l.getD i undef) [_, _, _, undef, undef, undef, undef, undef, undef, undef, undef, undef, undef, undef, undef, undef, undef, undef, undef, undef, undef, undef, undef, undef, undef, _, _, _, _])) ?_
    intro s
    dsimp only
    obtain ⟨u0, u1⟩ := b5.c2
    go_wp2_with fail
    refine (pubOwn_any (storeP x0 x1 x2 x3 x4 x5 x6 x7 x8 x9 x10 x11) (storeF x12 x13 x14 x15 x16 x17) (by simp [storeP]) (by simp [storeP]) (by simp [storeF]) (by simp [storeF]) _ _ _ _ U (rp) (rf)).mono ?_
    rintro e w1 ⟨a, ac, g, gc, rfl, h1, r1, r2, _, _⟩
    clear u0 u1
    go_wp2_with fail
    refine (pubSingle_any _).mono ?_
    rintro e w2 ⟨a', ac', g', gc', rfl, h2, r3, r4, _, _⟩
    go_wp2_with fail
    refine (measureF_ok (storeP x0 x1 x2 x3 x4 x5 x6 x7 x8 x9 x10 x11) (storeF x12 x13 x14 x15 x16 x17) [0, 1, 2] [0] _ _ _ _ _ _ _ _ w2 (r1.grow h2) (r2.grow h2) r3 r4 HM1.out).mono ?_
    rintro e w3 ⟨rfl, h3⟩
    clear r1 r2 r3 r4
    go_upto_region 3 with fail
    refine wp_abs (fun V => Gr U V ∧ Box V w3.heap.size [.int .i64 (moistL false (storeP x0 x1 x2 x3 x4 x5 x6 x7 x8 x9 x10 x11) (storeF x12 x13 x14 x15 x16 x17) [0, 1, 2] [0]), .int .i64 (moistL true (storeP x0 x1 x2 x3 x4 x5 x6 x7 x8 x9 x10 x11) (storeF x12 x13 x14 x15 x16 x17) [0, 1, 2] [0])] ∧ Box V (w3.heap.size + 1) [.int .i64 (thickL false (storeP x0 x1 x2 x3 x4 x5 x6 x7 x8 x9 x10 x11) (storeF x12 x13 x14 x15 x16 x17) [0, 1, 2] [0]), .int .i64 (thickL true (storeP x0 x1 x2 x3 x4 x5 x6 x7 x8 x9 x10 x11) (storeF x12 x13 x14 x15 x16 x17) [0, 1, 2] [0])]) ⟨((h1.tr (h2.tr h3)).tr (Gr.al _ _)).tr (Gr.al _ _), (Box.new _ [.int .i64 (moistL false (storeP x0 x1 x2 x3 x4 x5 x6 x7 x8 x9 x10 x11) (storeF x12 x13 x14 x15 x16 x17) [0, 1, 2] [0]), .int .i64 (moistL true (storeP x0 x1 x2 x3 x4 x5 x6 x7 x8 x9 x10 x11) (storeF x12 x13 x14 x15 x16 x17) [0, 1, 2] [0])] 43 w3.heap.size rfl).keep (Gr.al _ _), Box.new _ [.int .i64 (thickL false (storeP x0 x1 x2 x3 x4 x5 x6 x7 x8 x9 x10 x11) (storeF x12 x13 x14 x15 x16 x17) [0, 1, 2] [0]), .int .i64 (thickL true (storeP x0 x1 x2 x3 x4 x5 x6 x7 x8 x9 x10 x11) (storeF x12 x13 x14 x15 x16 x17) [0, 1, 2] [0])] 43 (w3.heap.size + 1) (by simp)⟩ ?_
    generalize w3.heap.size = M1
    clear h1 h2 h3
    rintro V ⟨gV, bm1, bk1⟩
    refine (show (∀ s : Nat → Value, Code.wp Try.prog _ _ ⟨#[s 0, s 1, s 2, .pointer (some ⟨w.heap.size + 1, 0, none⟩), .bool false, .pointer (some ⟨B5, 0, none⟩), .pointer (some ⟨B6, 0, none⟩), .pointer (some ⟨M1, 0, none⟩), .pointer (some ⟨M1 + 1, 0, none⟩), .int .i64 0, undef, undef, undef, undef, undef, undef, undef, undef, undef, undef, undef, undef, undef, undef, undef, s 25, s 26, s 27, s 28, s 29, s 30, s 31, s 32, s 33, s 34, s 35, s 36, undef, undef, undef, undef, undef, undef, undef, undef, undef, undef, undef, undef, undef, undef, undef, undef, undef, undef, undef, undef, undef, undef, undef, undef, undef, undef, undef, undef, undef, undef, undef, undef, undef, undef, undef, undef, undef, undef, undef, undef, undef, undef, undef, undef, undef, undef, undef, undef, undef, undef, undef, undef, undef, undef, undef, undef, undef, undef, undef, undef, undef, undef, undef, undef, undef, undef, undef, undef, undef, undef, undef, undef, undef, undef, undef, undef, undef, undef, undef, undef, undef, undef, undef, undef, undef, undef, undef, undef, undef, undef, undef, undef, undef, undef, undef, undef, undef, undef, undef, undef, undef, undef, undef, undef, undef, undef, undef, undef, undef, undef, undef, undef, undef, undef, undef, undef, undef, undef, undef, undef, undef, undef, undef, undef, undef, undef, undef, undef, undef, undef, undef, undef, undef, undef, undef, undef, undef, undef, undef, undef, undef, undef, undef, undef, undef, undef, undef, undef, undef, undef, undef, undef, undef, undef, undef, undef, undef, undef, undef, undef, undef, undef, undef, undef, undef, undef, undef], []⟩ _) → _ from fun h => h ((fun l : List Value => fun i => l.getD i undef) [_, _, _, undef, undef, undef, undef, undef, undef, undef, undef, undef, undef, undef, undef, undef, undef, undef, undef, undef, undef, undef, undef, undef, undef, _, _, _, _, _, _, _, _, _, _, _, _])) ?_
    intro s
    dsimp only
    obtain ⟨u0, u1⟩ := (b5.keep gV).c2
    go_wp2_with fail
    refine (pubOwn_any (storeP x0 x1 x2 x3 x4 x5 x6 x7 x8 x9 x10 x11) (storeF x12 x13 x14 x15 x16 x17) (by simp [storeP]) (by simp [storeP]) (by simp [storeF]) (by simp [storeF]) _ _ _ _ V (rp.grow gV) (rf.grow gV)).mono ?_
    rintro e w1 ⟨a, ac, g, gc, rfl, h1, r1, r2, _, _⟩
    clear u0 u1
    go_wp2_with fail
    refine (pubDouble_any _).mono ?_
    rintro e w2 ⟨a', ac', g', gc', rfl, h2, r3, r4, _, _⟩
    go_wp2_with fail
    refine (measureF_ok (storeP x0 x1 x2 x3 x4 x5 x6 x7 x8 x9 x10 x11) (storeF x12 x13 x14 x15 x16 x17) [0, 1, 2, 1, 0] [0, 1] _ _ _ _ _ _ _ _ w2 (r1.grow h2) (r2.grow h2) r3 r4 HM2.out).mono ?_
    rintro e w3 ⟨rfl, h3⟩
    clear r1 r2 r3 r4
    go_upto_region 4 with fail
    refine wp_abs (fun X => Gr V X ∧ Box X w3.heap.size [.int .i64 (moistL false (storeP x0 x1 x2 x3 x4 x5 x6 x7 x8 x9 x10 x11) (storeF x12 x13 x14 x15 x16 x17) [0, 1, 2, 1, 0] [0, 1]), .int .i64 (moistL true (storeP x0 x1 x2 x3 x4 x5 x6 x7 x8 x9 x10 x11) (storeF x12 x13 x14 x15 x16 x17) [0, 1, 2, 1, 0] [0, 1])] ∧ Box X (w3.heap.size + 1) [.int .i64 (thickL false (storeP x0 x1 x2 x3 x4 x5 x6 x7 x8 x9 x10 x11) (storeF x12 x13 x14 x15 x16 x17) [0, 1, 2, 1, 0] [0, 1]), .int .i64 (thickL true (storeP x0 x1 x2 x3 x4 x5 x6 x7 x8 x9 x10 x11) (storeF x12 x13 x14 x15 x16 x17) [0, 1, 2, 1, 0] [0, 1])]) ⟨((h1.tr (h2.tr h3)).tr (Gr.al _ _)).tr (Gr.al _ _), (Box.new _ [.int .i64 (moistL false (storeP x0 x1 x2 x3 x4 x5 x6 x7 x8 x9 x10 x11) (storeF x12 x13 x14 x15 x16 x17) [0, 1, 2, 1, 0] [0, 1]), .int .i64 (moistL true (storeP x0 x1 x2 x3 x4 x5 x6 x7 x8 x9 x10 x11) (storeF x12 x13 x14 x15 x16 x17) [0, 1, 2, 1, 0] [0, 1])] 43 w3.heap.size rfl).keep (Gr.al _ _), Box.new _ [.int .i64 (thickL false (storeP x0 x1 x2 x3 x4 x5 x6 x7 x8 x9 x10 x11) (storeF x12 x13 x14 x15 x16 x17) [0, 1, 2, 1, 0] [0, 1]), .int .i64 (thickL true (storeP x0 x1 x2 x3 x4 x5 x6 x7 x8 x9 x10 x11) (storeF x12 x13 x14 x15 x16 x17) [0, 1, 2, 1, 0] [0, 1])] 43 (w3.heap.size + 1) (by simp)⟩ ?_
    generalize w3.heap.size = M2
    clear h1 h2 h3
    rintro X ⟨gX0, bm2, bk2⟩
    have gUX := gV.tr gX0
    have b6 := b6.keep gUX
    have bt := bt.keep gUX
    have rpa := rpa.grow gUX
    have rta := rta.grow gUX
    have rba := rba.grow gUX
    have bm1 := bm1.keep gX0
    have bk1 := bk1.keep gX0
    have gU := gU.tr gUX
    clear gUX gV gX0 rp rf b5 HM1 HM2 H0 H1
    generalize (moistL false (storeP x0 x1 x2 x3 x4 x5 x6 x7 x8 x9 x10 x11) (storeF x12 x13 x14 x15 x16 x17) [0, 1, 2] [0]) = ml1 at bm1 HML
    generalize (moistL true (storeP x0 x1 x2 x3 x4 x5 x6 x7 x8 x9 x10 x11) (storeF x12 x13 x14 x15 x16 x17) [0, 1, 2] [0]) = mh1 at bm1 HMH
    generalize (moistL false (storeP x0 x1 x2 x3 x4 x5 x6 x7 x8 x9 x10 x11) (storeF x12 x13 x14 x15 x16 x17) [0, 1, 2, 1, 0] [0, 1]) = ml2 at bm2 HML
    generalize (moistL true (storeP x0 x1 x2 x3 x4 x5 x6 x7 x8 x9 x10 x11) (storeF x12 x13 x14 x15 x16 x17) [0, 1, 2, 1, 0] [0, 1]) = mh2 at bm2 HMH
    generalize (thickL false (storeP x0 x1 x2 x3 x4 x5 x6 x7 x8 x9 x10 x11) (storeF x12 x13 x14 x15 x16 x17) [0, 1, 2] [0]) = cl1 at bk1 HTL HK1
    generalize (thickL true (storeP x0 x1 x2 x3 x4 x5 x6 x7 x8 x9 x10 x11) (storeF x12 x13 x14 x15 x16 x17) [0, 1, 2] [0]) = ch1 at bk1 HTH HK1
    generalize (thickL false (storeP x0 x1 x2 x3 x4 x5 x6 x7 x8 x9 x10 x11) (storeF x12 x13 x14 x15 x16 x17) [0, 1, 2, 1, 0] [0, 1]) = cl2 at bk2 HTL HK2
    generalize (thickL true (storeP x0 x1 x2 x3 x4 x5 x6 x7 x8 x9 x10 x11) (storeF x12 x13 x14 x15 x16 x17) [0, 1, 2, 1, 0] [0, 1]) = ch2 at bk2 HTH HK2
    refine (show (∀ s : Nat → Value, Code.wp Try.prog _ _ ⟨#[s 0, s 1, s 2, .pointer (some ⟨w.heap.size + 1, 0, none⟩), .bool false, .pointer (some ⟨B5, 0, none⟩), .pointer (some ⟨B6, 0, none⟩), .pointer (some ⟨M1, 0, none⟩), .pointer (some ⟨M1 + 1, 0, none⟩), .int .i64 0, .pointer (some ⟨M2, 0, none⟩), .pointer (some ⟨M2 + 1, 0, none⟩), .int .i64 0, undef, undef, undef, undef, undef, undef, undef, undef, undef, undef, undef, undef, s 25, s 26, s 27, s 28, s 29, s 30, s 31, s 32, s 33, s 34, s 35, s 36, s 37, s 38, s 39, s 40, s 41, s 42, s 43, s 44, undef, undef, undef, undef, undef, undef, undef, undef, undef, undef, undef, undef, undef, undef, undef, undef, undef, undef, undef, undef, undef, undef, undef, undef, undef, undef, undef, undef, undef, undef, undef, undef, undef, undef, undef, undef, undef, undef, undef, undef, undef, undef, undef, undef, undef, undef, undef, undef, undef, undef, undef, undef, undef, undef, undef, undef, undef, undef, undef, undef, undef, undef, undef, undef, undef, undef, undef, undef, undef, undef, undef, undef, undef, undef, undef, undef, undef, undef, undef, undef, undef, undef, undef, undef, undef, undef, undef, undef, undef, undef, undef, undef, undef, undef, undef, undef, undef, undef, undef, undef, undef, undef, undef, undef, undef, undef, undef, undef, undef, undef, undef, undef, undef, undef, undef, undef, undef, undef, undef, undef, undef, undef, undef, undef, undef, undef, undef, undef, undef, undef, undef, undef, undef, undef, undef, undef, undef, undef, undef, undef, undef, undef, undef, undef, undef, undef, undef, undef, undef, undef, undef, undef, undef, undef, undef, undef, undef, undef, undef], []⟩ _) → _ from fun h => h ((fun l : List Value => fun i => l.getD i undef) [_, _, _, undef, undef, undef, undef, undef, undef, undef, undef, undef, undef, undef, undef, undef, undef, undef, undef, undef, undef, undef, undef, undef, undef, _, _, _, _, _, _, _, _, _, _, _, _, _, _, _, _, _, _, _, _])) ?_
    intro s
    dsimp only
    have gX := Gr.dr X
    (obtain ⟨e0, e1, e2, e3, e4, e5, e6⟩ := (b6.keep (gX)).c7); obtain ⟨q0, q1⟩ := (bk1.keep (gX)).c2
    go_region_held3 (fun w' => w'.cell? ⟨(M1 + 1), 0, none⟩ = some (.int .i64 cl1) ∧ w'.cell? ⟨(M1 + 1), 1, none⟩ = some (.int .i64 ch1) ∧ w'.cell? ⟨B6, 0, none⟩ = some (.int .i64 (x20 % 50)) ∧ w'.cell? ⟨B6, 1, none⟩ = some (.slice pa (bxPan x18 x19 0).length pc) ∧ w'.cell? ⟨B6, 2, none⟩ = some (.int .i64 (40 + x21)) ∧ w'.cell? ⟨B6, 3, none⟩ = some (.slice ta (bxTop x19 x22).length tc) ∧ w'.cell? ⟨B6, 4, none⟩ = some (.slice ba (bxBot x19 x22 x23).length bc) ∧ w'.cell? ⟨B6, 5, none⟩ = some (.int .i64 (x24 % 21)) ∧ w'.cell? ⟨B6, 6, none⟩ = some (.bool false)) (first | exact ⟨q0, q1, e0, e1, e2, e3, e4, e5, e6⟩ | go_keep) (first
      | (go_at_call 13; (refine (pubBlank_any _ _ _ _ _ _ _ _ _ _ _ _ _ (by simp [bxPan]) (by simp [bxPan]) (by simp [bxTop]) (by simp [bxTop]) (by simp [bxBot]) (by simp [bxBot]) _ (rpa.grow gX) (rta.grow gX) (rba.grow gX)).mono ?_); rintro e w2 ⟨pa', pc', ta', tc', ba', bc', rfl, hy, hr1, hr2, hr3, _, _, _⟩; replace gX := gX.tr hy; (obtain ⟨e0, e1, e2, e3, e4, e5, e6⟩ := (b6.keep (gX)).c7); obtain ⟨q0, q1⟩ := (bk1.keep (gX)).c2)
      | (go_at_call 12; (refine (inner_nine _ _ _ _ _ _ _ _ _ _ _ _ _ _ _ HGB.out HK1.out _ hr1 hr2 hr3).mono ?_); rintro e w3 ⟨la, lc, rfl, hz, hl⟩; replace gX := gX.tr hz; (obtain ⟨e0, e1, e2, e3, e4, e5, e6⟩ := (b6.keep (gX)).c7); obtain ⟨q0, q1⟩ := (bk1.keep (gX)).c2))
    clear e0 e1 e2 e3 e4 e5 e6 q0 q1 hr1 hr2 hr3 hy hz
    go_upto_region 5 with fail
    have gP := gX
    clear gX
    have gX := Gr.dr w3
    (obtain ⟨e0, e1, e2, e3, e4, e5, e6⟩ := (b6.keep (gP.tr gX)).c7); obtain ⟨q0, q1⟩ := (bk2.keep (gP.tr gX)).c2
    go_region_held3 (fun w' => w'.cell? ⟨(M2 + 1), 0, none⟩ = some (.int .i64 cl2) ∧ w'.cell? ⟨(M2 + 1), 1, none⟩ = some (.int .i64 ch2) ∧ w'.cell? ⟨B6, 0, none⟩ = some (.int .i64 (x20 % 50)) ∧ w'.cell? ⟨B6, 1, none⟩ = some (.slice pa (bxPan x18 x19 0).length pc) ∧ w'.cell? ⟨B6, 2, none⟩ = some (.int .i64 (40 + x21)) ∧ w'.cell? ⟨B6, 3, none⟩ = some (.slice ta (bxTop x19 x22).length tc) ∧ w'.cell? ⟨B6, 4, none⟩ = some (.slice ba (bxBot x19 x22 x23).length bc) ∧ w'.cell? ⟨B6, 5, none⟩ = some (.int .i64 (x24 % 21)) ∧ w'.cell? ⟨B6, 6, none⟩ = some (.bool false)) (first | exact ⟨q0, q1, e0, e1, e2, e3, e4, e5, e6⟩ | go_keep) (first
      | (go_at_call 13; (refine (pubBlank_any _ _ _ _ _ _ _ _ _ _ _ _ _ (by simp [bxPan]) (by simp [bxPan]) (by simp [bxTop]) (by simp [bxTop]) (by simp [bxBot]) (by simp [bxBot]) _ (rpa.grow (gP.tr gX)) (rta.grow (gP.tr gX)) (rba.grow (gP.tr gX))).mono ?_); rintro e w2 ⟨pa', pc', ta', tc', ba', bc', rfl, hy, hr1, hr2, hr3, _, _, _⟩; replace gX := gX.tr hy; (obtain ⟨e0, e1, e2, e3, e4, e5, e6⟩ := (b6.keep (gP.tr gX)).c7); obtain ⟨q0, q1⟩ := (bk2.keep (gP.tr gX)).c2)
      | (go_at_call 12; (refine (inner_nine _ _ _ _ _ _ _ _ _ _ _ _ _ _ _ HGB.out HK2.out _ hr1 hr2 hr3).mono ?_); rintro e w3 ⟨ma, mc, rfl, hz, hm⟩; replace gX := gX.tr hz; (obtain ⟨e0, e1, e2, e3, e4, e5, e6⟩ := (b6.keep (gP.tr gX)).c7); obtain ⟨q0, q1⟩ := (bk2.keep (gP.tr gX)).c2))
    clear e0 e1 e2 e3 e4 e5 e6 q0 q1 hr1 hr2 hr3 hy hz
    have gQ := gP.tr gX
    have hl := hl.grow gX
    have b6 := b6.keep gQ
    have bt := bt.keep gQ
    have rpa := rpa.grow gQ
    have rta := rta.grow gQ
    have rba := rba.grow gQ
    have bm1 := bm1.keep gQ
    have bk1 := bk1.keep gQ
    have bm2 := bm2.keep gQ
    have bk2 := bk2.keep gQ
    have gU := gU.tr gQ
    clear gP gX gQ
    have h1 := HML.out
    have h2 := HMH.out
    have h3 := HTL.out
    have h4 := HTH.out
    have d1 : decide (ml2 < ml1) = false := decide_eq_false (by omega)
    have d2 : decide (mh2 < mh1) = false := decide_eq_false (by omega)
    have d3 : decide (cl2 < cl1) = false := decide_eq_false (by omega)
    have d4 : decide (ch2 < ch1) = false := decide_eq_false (by omega)
    clear h1 h2 h3 h4
    obtain ⟨u0, u1⟩ := bm1.c2
    obtain ⟨u2, u3⟩ := bk1.c2
    obtain ⟨u4, u5⟩ := bm2.c2
    obtain ⟨u6, u7⟩ := bk2.c2
    go_wp2_with fail
    clear u0 u1 u2 u3 u4 u5 u6 u7 d1 d2 d3 d4 bm1 bm2 HML HMH
    refine (show (∀ s : Nat → Value, Code.wp Try.prog _ _ ⟨#[s 0, s 1, s 2, .pointer (some ⟨w.heap.size + 1, 0, none⟩), .bool false, s 5, .pointer (some ⟨B6, 0, none⟩), s 7, .pointer (some ⟨M1 + 1, 0, none⟩), s 9, s 10, .pointer (some ⟨M2 + 1, 0, none⟩), s 12, .slice la 9 lc, s 14, .slice ma 9 mc, s 16, .int .i64 0, undef, undef, undef, undef, undef, undef, undef, s 25, s 26, s 27, s 28, s 29, s 30, s 31, s 32, s 33, s 34, s 35, s 36, s 37, s 38, s 39, s 40, s 41, s 42, s 43, s 44, s 45, s 46, s 47, s 48, s 49, s 50, s 51, s 52, s 53, s 54, s 55, s 56, s 57, s 58, s 59, s 60, s 61, s 62, s 63, s 64, s 65, s 66, s 67, s 68, s 69, s 70, s 71, s 72, s 73, s 74, s 75, s 76, s 77, s 78, s 79, s 80, s 81, s 82, s 83, s 84, s 85, s 86, s 87, s 88, s 89, s 90, s 91, s 92, s 93, s 94, s 95, s 96, s 97, s 98, s 99, s 100, s 101, s 102, s 103, s 104, s 105, s 106, s 107, s 108, s 109, s 110, undef, undef, undef, undef, undef, undef, undef, undef, undef, undef, undef, undef, undef, undef, undef, undef, undef, undef, undef, undef, undef, undef, undef, undef, undef, undef, undef, undef, undef, undef, undef, undef, undef, undef, undef, undef, undef, undef, undef, undef, undef, undef, undef, undef, undef, undef, undef, undef, undef, undef, undef, undef, undef, undef, undef, undef, undef, undef, undef, undef, undef, undef, undef, undef, undef, undef, undef, undef, undef, undef, undef, undef, undef, undef, undef, undef, undef, undef, undef, undef, undef, undef, undef, undef, undef, undef, undef, undef, undef, undef, undef, undef, undef], []⟩ _) → _ from fun h => h ((fun l : List Value => fun i => l.getD i undef) [_, _, _, undef, undef, _, undef, _, undef, _, _, undef, _, undef, _, undef, _, undef, undef, undef, undef, undef, undef, undef, undef, _, _, _, _, _, _, _, _, _, _, _, _, _, _, _, _, _, _, _, _, _, _, _, _, _, _, _, _, _, _, _, _, _, _, _, _, _, _, _, _, _, _, _, _, _, _, _, _, _, _, _, _, _, _, _, _, _, _, _, _, _, _, _, _, _, _, _, _, _, _, _, _, _, _, _, _, _, _, _, _, _, _, _, _, _, _])) ?_
    intro s
    dsimp only
    go_loopw [17] (fun i wr => Hid (∃ j : Nat, j ≤ 9 ∧ i = .int .i64 j ∧ Gr w3 wr)) (fun i wr => 9 - (intOf i).toNat)
    case atStart => exact Lib.hid ⟨0, by omega, rfl, Below.refl _ _⟩
    case round =>
      obtain ⟨j, hj, rfl, gJ⟩ := hrel.out
      clear hrel
      by_cases hlt : j < 9
      · have hl' : (innerL 0 (40 + x21) (bxPan x18 x19 0) (bxTop x19 x22) (bxBot x19 x22 x23) false cl1 ch1 9)[j]? = some (innerAt 0 (40 + x21) (bxPan x18 x19 0) (bxTop x19 x22) (bxBot x19 x22 x23) false cl1 ch1 j) := by simp [innerL, hlt]
        have hm' : (innerL 0 (40 + x21) (bxPan x18 x19 0) (bxTop x19 x22) (bxBot x19 x22 x23) false cl2 ch2 9)[j]? = some (innerAt 0 (40 + x21) (bxPan x18 x19 0) (bxTop x19 x22) (bxBot x19 x22 x23) false cl2 ch2 j) := by simp [innerL, hlt]
        obtain ⟨bl, ol, rfl, _, s0, s1⟩ := SRow.get (hl.grow gJ) hl'
        obtain ⟨bm, om, rfl, _, n0, n1⟩ := SRow.get (hm.grow gJ) hm'
        obtain ⟨c0, c1⟩ := inner_le (off := 0) (hei := 40 + x21) (pan := bxPan x18 x19 0) (top := bxTop x19 x22) (bot := bxBot x19 x22 x23) (opn := false) HTL.out HTH.out j
        clear hl' hm' HGB HK1 HK2 HTL HTH HY hl hm b6 bt bk1 bk2 rpa rta rba gU
        generalize innerAt 0 (40 + x21) (bxPan x18 x19 0) (bxTop x19 x22) (bxBot x19 x22 x23) false cl1 ch1 j = p at s0 s1 c0 c1
        generalize innerAt 0 (40 + x21) (bxPan x18 x19 0) (bxTop x19 x22) (bxBot x19 x22 x23) false cl2 ch2 j = q at n0 n1 c0 c1
        have d0 : decide (p.lo < q.lo) = false := decide_eq_false (by omega)
        have d1 : decide (p.hi < q.hi) = false := decide_eq_false (by omega)
        have hjI : (j : Int) < 9 := by omega
        clear c0 c1
        go_upto_region 11 with fail
        have z0 := From.keep s0
        have z1 := From.keep s1
        have z2 := From.keep n0
        have z3 := From.keep n1
        refine wp_region_gr (by kernel_rfl) (by kernel_rfl) ?_
        repeat (go_big_quiet_step (fail))
        refine wpQuiet_nil ?_
        rintro _ ⟨u, rfl⟩
        clear z0 z1 z2 z3
        go_wp2_with fail
        go_roundw
        case rel => first
          | exact Lib.hid ⟨j + 1, by omega, by go_num, gJ.tr u.property⟩
          | exact Lib.hid ⟨j + 1, by omega, rfl, gJ.tr u.property⟩
        case measure => simp [intOf]; omega
      · obtain rfl : j = 9 := by omega
        have hy0 := HY.out y0 (by simp)
        have hy1 := HY.out y1 (by simp)
        have hy2 := HY.out y2 (by simp)
        have HT3 : Hid (inB 0 3000 [y0 + 20, y1 + 20, y2 + 20] = true) := Lib.hid (thing_ok hy0 hy1 hy2)
        obtain ⟨a0, b0⟩ := hy0
        obtain ⟨a1, b1⟩ := hy1
        obtain ⟨a2, b2⟩ := hy2
        obtain ⟨v0, v1, v2⟩ := (bt.keep gJ).c3
        go_upto_region 14 with fail
        clear v0 v1 v2 a0 a1 a2 b0 b1 b2
        refine wp_abs (fun Y => Gr wr Y ∧ IRow Y (some ⟨wr.heap.size, 0, none⟩) [y0 + 20, y1 + 20, y2 + 20]) ⟨Gr.al _ _, RowOf.lit (enc := encI) (sz := 1) (fun _ => rfl) wr 3 [y0 + 20, y1 + 20, y2 + 20] (by simp) _ (by rfl) wr.heap.size rfl⟩ ?_
        rintro Y ⟨gY, rt⟩
        have gZ := gJ.tr gY
        have gX := Gr.dr Y
        obtain ⟨e0, e1, e2, e3, e4, e5, e6⟩ := (b6.keep (gZ.tr gX)).c7
        obtain ⟨q0, q1⟩ := (bk1.keep (gZ.tr gX)).c2
        go_region_held3 (fun w' => w'.cell? ⟨(M1 + 1), 0, none⟩ = some (.int .i64 cl1) ∧ w'.cell? ⟨(M1 + 1), 1, none⟩ = some (.int .i64 ch1) ∧ w'.cell? ⟨B6, 0, none⟩ = some (.int .i64 (x20 % 50)) ∧ w'.cell? ⟨B6, 1, none⟩ = some (.slice pa (bxPan x18 x19 0).length pc) ∧ w'.cell? ⟨B6, 2, none⟩ = some (.int .i64 (40 + x21)) ∧ w'.cell? ⟨B6, 3, none⟩ = some (.slice ta (bxTop x19 x22).length tc) ∧ w'.cell? ⟨B6, 4, none⟩ = some (.slice ba (bxBot x19 x22 x23).length bc) ∧ w'.cell? ⟨B6, 5, none⟩ = some (.int .i64 (x24 % 21)) ∧ w'.cell? ⟨B6, 6, none⟩ = some (.bool false)) (first | exact ⟨q0, q1, e0, e1, e2, e3, e4, e5, e6⟩ | go_keep) (first
              | (go_at_call 13; (refine (pubBlank_any _ _ _ _ _ _ _ _ _ _ _ _ _ (by simp [bxPan]) (by simp [bxPan]) (by simp [bxTop]) (by simp [bxTop]) (by simp [bxBot]) (by simp [bxBot]) _ (rpa.grow (gZ.tr gX)) (rta.grow (gZ.tr gX)) (rba.grow (gZ.tr gX))).mono ?_); rintro e w4 ⟨pa', pc', ta', tc', ba', bc', rfl, hy, hr1, hr2, hr3, _, _, _⟩; replace gX := gX.tr hy; (obtain ⟨e0, e1, e2, e3, e4, e5, e6⟩ := (b6.keep (gZ.tr gX)).c7); obtain ⟨q0, q1⟩ := (bk1.keep (gZ.tr gX)).c2)
              | (go_at_call 21; (refine (pubInts_any [y0 + 20, y1 + 20, y2 + 20] (by simp) (by simp) _ _ _ (rt.grow gX)).mono ?_); rintro e w5 ⟨ia, ic, rfl, hi, hri, _⟩; have hr1 := hr1.grow hi; have hr2 := hr2.grow hi; have hr3 := hr3.grow hi; replace gX := gX.tr hi; (obtain ⟨e0, e1, e2, e3, e4, e5, e6⟩ := (b6.keep (gZ.tr gX)).c7); obtain ⟨q0, q1⟩ := (bk1.keep (gZ.tr gX)).c2)
              | (go_at_call 20; (refine (holds_ok _ _ _ _ _ _ _ _ _ _ _ _ _ _ _ [y0 + 20, y1 + 20, y2 + 20] HGB.out HK1.out (by simp) HT3.out _ _ _ hr1 hr2 hr3 hri).mono ?_); rintro e w6 ⟨rfl, hh⟩; replace gX := gX.tr hh; (obtain ⟨e0, e1, e2, e3, e4, e5, e6⟩ := (b6.keep (gZ.tr gX)).c7); obtain ⟨q0, q1⟩ := (bk1.keep (gZ.tr gX)).c2))
        clear e0 e1 e2 e3 e4 e5 e6 q0 q1 hr1 hr2 hr3 hri hy hi hh
        go_upto_region 15 with fail
        have gZ := gZ.tr gX
        have rt := rt.grow gX
        clear gX
        have gX := Gr.dr w6
        obtain ⟨e0, e1, e2, e3, e4, e5, e6⟩ := (b6.keep (gZ.tr gX)).c7
        obtain ⟨q0, q1⟩ := (bk2.keep (gZ.tr gX)).c2
        go_region_held3 (fun w' => w'.cell? ⟨(M2 + 1), 0, none⟩ = some (.int .i64 cl2) ∧ w'.cell? ⟨(M2 + 1), 1, none⟩ = some (.int .i64 ch2) ∧ w'.cell? ⟨B6, 0, none⟩ = some (.int .i64 (x20 % 50)) ∧ w'.cell? ⟨B6, 1, none⟩ = some (.slice pa (bxPan x18 x19 0).length pc) ∧ w'.cell? ⟨B6, 2, none⟩ = some (.int .i64 (40 + x21)) ∧ w'.cell? ⟨B6, 3, none⟩ = some (.slice ta (bxTop x19 x22).length tc) ∧ w'.cell? ⟨B6, 4, none⟩ = some (.slice ba (bxBot x19 x22 x23).length bc) ∧ w'.cell? ⟨B6, 5, none⟩ = some (.int .i64 (x24 % 21)) ∧ w'.cell? ⟨B6, 6, none⟩ = some (.bool false)) (first | exact ⟨q0, q1, e0, e1, e2, e3, e4, e5, e6⟩ | go_keep) (first
              | (go_at_call 13; (refine (pubBlank_any _ _ _ _ _ _ _ _ _ _ _ _ _ (by simp [bxPan]) (by simp [bxPan]) (by simp [bxTop]) (by simp [bxTop]) (by simp [bxBot]) (by simp [bxBot]) _ (rpa.grow (gZ.tr gX)) (rta.grow (gZ.tr gX)) (rba.grow (gZ.tr gX))).mono ?_); rintro e w4 ⟨pa', pc', ta', tc', ba', bc', rfl, hy, hr1, hr2, hr3, _, _, _⟩; replace gX := gX.tr hy; (obtain ⟨e0, e1, e2, e3, e4, e5, e6⟩ := (b6.keep (gZ.tr gX)).c7); obtain ⟨q0, q1⟩ := (bk2.keep (gZ.tr gX)).c2)
              | (go_at_call 20; (refine (holds_ok _ _ _ _ _ _ _ _ _ _ _ _ _ _ _ [y0 + 20, y1 + 20, y2 + 20] HGB.out HK2.out (by simp) HT3.out _ _ _ hr1 hr2 hr3 (rt.grow gX)).mono ?_); rintro e w6 ⟨rfl, hh⟩; replace gX := gX.tr hh; (obtain ⟨e0, e1, e2, e3, e4, e5, e6⟩ := (b6.keep (gZ.tr gX)).c7); obtain ⟨q0, q1⟩ := (bk2.keep (gZ.tr gX)).c2))
        clear e0 e1 e2 e3 e4 e5 e6 q0 q1 hr1 hr2 hr3 hy hh
        have F1 : fitsL [y0 + 20, y1 + 20, y2 + 20] (fitsBox 0 (40 + x21) (bxPan x18 x19 0) (bxTop x19 x22) (bxBot x19 x22 x23) false ch2) = true → fitsL [y0 + 20, y1 + 20, y2 + 20] (fitsBox 0 (40 + x21) (bxPan x18 x19 0) (bxTop x19 x22) (bxBot x19 x22 x23) false ch1) = true := fitsBox_mono HTH.out
        have F2 : fitsL [y0 + 20, y1 + 20, y2 + 20] (fitsBox 0 (40 + x21) (bxPan x18 x19 0) (bxTop x19 x22) (bxBot x19 x22 x23) false cl2) = true → fitsL [y0 + 20, y1 + 20, y2 + 20] (fitsBox 0 (40 + x21) (bxPan x18 x19 0) (bxTop x19 x22) (bxBot x19 x22 x23) false cl1) = true := fitsBox_mono HTL.out
        have F3 : fitsL [y0 + 20, y1 + 20, y2 + 20] (fitsBox 0 (40 + x21) (bxPan x18 x19 0) (bxTop x19 x22) (bxBot x19 x22 x23) false ch1) = true → fitsL [y0 + 20, y1 + 20, y2 + 20] (fitsBox 0 (40 + x21) (bxPan x18 x19 0) (bxTop x19 x22) (bxBot x19 x22 x23) false cl1) = true := fitsBox_mono (okSpan_le HK1.out)
        generalize fitsL [y0 + 20, y1 + 20, y2 + 20] (fitsBox 0 (40 + x21) (bxPan x18 x19 0) (bxTop x19 x22) (bxBot x19 x22 x23) false ch1) = fa at F1 F3 ⊢
        generalize fitsL [y0 + 20, y1 + 20, y2 + 20] (fitsBox 0 (40 + x21) (bxPan x18 x19 0) (bxTop x19 x22) (bxBot x19 x22 x23) false cl1) = fb at F2 F3 ⊢
        generalize fitsL [y0 + 20, y1 + 20, y2 + 20] (fitsBox 0 (40 + x21) (bxPan x18 x19 0) (bxTop x19 x22) (bxBot x19 x22 x23) false ch2) = fc at F1 ⊢
        generalize fitsL [y0 + 20, y1 + 20, y2 + 20] (fitsBox 0 (40 + x21) (bxPan x18 x19 0) (bxTop x19 x22) (bxBot x19 x22 x23) false cl2) = fd at F2 ⊢
        have gF := gU.tr (gZ.tr gX)
        clear gU gZ gX gY gJ hl hm b6 bt bk1 bk2 rpa rta rba rt HGB HK1 HK2 HTL HTH HY HT3
        cases fa <;> cases fb <;> cases fc <;> cases fd <;> first
          | exact absurd (F1 rfl) (by decide)
          | exact absurd (F2 rfl) (by decide)
          | exact absurd (F3 rfl) (by decide)
          | (clear F1 F2 F3
             go_wp2_with (first
               | (go_at_call 16; (refine (pubBoard_any _).mono ?_); rintro e w8 ⟨rfl, h8⟩)
               | (go_at_call 17; (refine (pubScore_any _).mono ?_); rintro e w9 ⟨rfl, h9⟩))
             go_ret
             exact ⟨rfl, gF.tr (h8.tr h9)⟩)

end Go.Proofs.Ytbohjmogpiaejaa
