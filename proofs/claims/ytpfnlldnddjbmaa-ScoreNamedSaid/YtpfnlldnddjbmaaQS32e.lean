/- Contract of Play of two valid blanks. (Made by gen_play.py.) The document's examples of chapter 2, call by call. The document's examples of chapter 2: known returns true. (Made by gen_s32.py.) -/
import Derived.Test.YtpfnlldnddjbmaaQS32b
import Derived.Test.YtpfnlldnddjbmaaQS32d
import Derived.Deep.MidRow
import Derived.Deep.CutRange
namespace Go.Proofs.Ytpfnlldnddjbmaa
set_option linter.unusedVariables false
set_option linter.unusedSimpArgs false
open Go.RowKit

def playAt (hei : Int) (pan top bot : List Int) (opn : Bool) (cl ch : Int) (hei' : Int) (pan' top' bot' : List Int) (opn' : Bool) (cl' ch' : Int) (k : Nat) : Sp :=
 lessL (innerAt 0 hei pan top bot opn cl ch k) [flatAt 0 hei' pan' top' bot' opn' k, ⟨cl', ch'⟩]

def playL (hei : Int) (pan top bot : List Int) (opn : Bool) (cl ch : Int) (hei' : Int) (pan' top' bot' : List Int) (opn' : Bool) (cl' ch' : Int) (n : Nat) : List Sp :=
 (List.range n).map (playAt hei pan top bot opn cl ch hei' pan' top' bot' opn' cl' ch')

def CSp (l : List Sp) (v : World) (t : Value) : Prop := ∃ a c, t = .slice a l.length c ∧ SRow v a l

theorem CSp.up {l : List Sp} {v v' : World} {t : Value} (h : CSp l v t) (g : Gr v v') : CSp l v' t := by
 obtain ⟨a, c, e, r⟩ := h
 exact ⟨a, c, e, r.grow g⟩

def CIn (l : List Int) (v : World) (t : Value) : Prop := ∃ a c, t = .slice a l.length c ∧ IRow v a l

theorem CIn.up {l : List Int} {v v' : World} {t : Value} (h : CIn l v t) (g : Gr v v') : CIn l v' t := by
 obtain ⟨a, c, e, r⟩ := h
 exact ⟨a, c, e, r.grow g⟩

/-- A slice of one new span. -/
def COne (lo hi : Int) (v : World) (t : Value) : Prop := ∃ b, t = .slice (some ⟨b, 0, none⟩) 1 1 ∧ b < v.heap.size ∧ Box v b [.int .i64 lo, .int .i64 hi]

theorem COne.up {lo hi : Int} {v v' : World} {t : Value} (h : COne lo hi v t) (g : Gr v v') : COne lo hi v' t := by
 obtain ⟨b, e, hb, r⟩ := h
 exact ⟨b, e, Nat.lt_of_lt_of_le hb g.size, r.keep g⟩

theorem Box.news {v : World} {b : Nat} {vs : List Value} (h : Box v b vs) : ∀ (j : Nat) (u : Value), vs[j]? = some u → v.cell? ((⟨b, 0, none⟩ : Addr).add j) = some u := by
 intro j u hu
 have hc := h.2 j u hu
 unfold Addr.add
 split
 ·rename_i h0
  subst h0
  exact hc
 ·simpa using hc

theorem inner_bd {tab hei slo : Int} {pan top bot : List Int} {opn : Bool} {cl ch : Int} (G : GoodB tab hei slo pan top bot opn) (c0 : 0 ≤ cl) (c1 : cl ≤ 10000) (c2 : 0 ≤ ch) (c3 : ch ≤ 10000) {k : Nat} (hk : k < 9) : SpB 1000000000 (innerAt 0 hei pan top bot opn cl ch k) := by
 obtain ⟨a, b, c, d⟩ := flat_bd (off := 0) G (by omega) (by omega) hk
 have hL : lostL k opn = 1 ∨ lostL k opn = 2 := by unfold lostL; split <;> simp
 unfold innerAt insideS
 rcases hL with e | e <;> rw [e] <;> exact ⟨by simp only; omega, by simp only; omega, by simp only; omega, by simp only; omega⟩

theorem okSpan_four {cl ch : Int} (hc : okSpan 1 10000 cl ch = true) : 0 ≤ cl ∧ cl ≤ 10000 ∧ 0 ≤ ch ∧ ch ≤ 10000 := by
 simp only [okSpan, inB, in1, List.all_cons, List.all_nil, Bool.and_true, Bool.and_eq_true, decide_eq_true_eq] at hc
 omega

theorem two_bd {f : Sp} {cl ch : Int} (hf : SpB 10000000 f) (c0 : 0 ≤ cl) (c1 : cl ≤ 10000) (c2 : 0 ≤ ch) (c3 : ch ≤ 10000) : ∀ x ∈ ([f, ⟨cl, ch⟩] : List Sp), SpB 1000000000 x := by
 obtain ⟨a, b, c, d⟩ := hf
 intro x hx
 simp at hx
 rcases hx with rfl | rfl
 ·exact ⟨by omega, by omega, by omega, by omega⟩
 ·exact ⟨by simp only; omega, by simp only; omega, by simp only; omega, by simp only; omega⟩

set_option maxRecDepth 100000 in
set_option maxHeartbeats 4000000 in
theorem play_ok (tab hei slo : Int) (pan top bot : List Int) (pa ta ba : Option Addr) (pc tc bc : Nat) (opn : Bool) (tab' hei' slo' : Int) (pan' top' bot' : List Int) (pa' ta' ba' : Option Addr) (pc' tc' bc' : Nat) (opn' : Bool) (cl ch cl' ch' : Int) (G : GoodB tab hei slo pan top bot opn) (G' : GoodB tab' hei' slo' pan' top' bot' opn') (hc : okSpan 1 10000 cl ch = true) (hc' : okSpan 1 10000 cl' ch' = true) (w : World)
  (hp : IRow w pa pan) (ht : IRow w ta top) (hb : IRow w ba bot) (hp' : IRow w pa' pan') (ht' : IRow w ta' top') (hb' : IRow w ba' bot') :
  Calls Try.prog 32 #[.agg #[.int .i64 tab, .slice pa pan.length pc, .int .i64 hei, .slice ta top.length tc, .slice ba bot.length bc, .int .i64 slo, .bool opn], .agg #[.int .i64 tab', .slice pa' pan'.length pc', .int .i64 hei', .slice ta' top'.length tc', .slice ba' bot'.length bc', .int .i64 slo', .bool opn'], .agg #[.int .i64 cl, .int .i64 ch], .agg #[.int .i64 cl', .int .i64 ch']] w (SpansPost (playL hei pan top bot opn cl ch hei' pan' top' bot' opn' cl' ch' 4) w) := by
 have gg := (((Gr.al w (.cells #[.int .i64 tab, .slice pa pan.length pc, .int .i64 hei, .slice ta top.length tc, .slice ba bot.length bc, .int .i64 slo, .bool opn] 24)).tr (Gr.al _ (.cells #[.int .i64 tab', .slice pa' pan'.length pc', .int .i64 hei', .slice ta' top'.length tc', .slice ba' bot'.length bc', .int .i64 slo', .bool opn'] 24))).tr (Gr.al _ (.cells #[.int .i64 cl, .int .i64 ch] 37))).tr (Gr.al _ (.cells #[.int .i64 cl', .int .i64 ch'] 37))
 have hB := (((Box.new w [.int .i64 tab, .slice pa pan.length pc, .int .i64 hei, .slice ta top.length tc, .slice ba bot.length bc, .int .i64 slo, .bool opn] 24 w.heap.size rfl).keep (Gr.al _ (.cells #[.int .i64 tab', .slice pa' pan'.length pc', .int .i64 hei', .slice ta' top'.length tc', .slice ba' bot'.length bc', .int .i64 slo', .bool opn'] 24))).keep (Gr.al _ (.cells #[.int .i64 cl, .int .i64 ch] 37))).keep (Gr.al _ (.cells #[.int .i64 cl', .int .i64 ch'] 37))
 have hB' := ((Box.new (w.alloc (.cells #[.int .i64 tab, .slice pa pan.length pc, .int .i64 hei, .slice ta top.length tc, .slice ba bot.length bc, .int .i64 slo, .bool opn] 24)) [.int .i64 tab', .slice pa' pan'.length pc', .int .i64 hei', .slice ta' top'.length tc', .slice ba' bot'.length bc', .int .i64 slo', .bool opn'] 24 (w.heap.size + 1) (by simp)).keep (Gr.al _ (.cells #[.int .i64 cl, .int .i64 ch] 37))).keep (Gr.al _ (.cells #[.int .i64 cl', .int .i64 ch'] 37))
 have hC := (Box.new ((w.alloc (.cells #[.int .i64 tab, .slice pa pan.length pc, .int .i64 hei, .slice ta top.length tc, .slice ba bot.length bc, .int .i64 slo, .bool opn] 24)).alloc (.cells #[.int .i64 tab', .slice pa' pan'.length pc', .int .i64 hei', .slice ta' top'.length tc', .slice ba' bot'.length bc', .int .i64 slo', .bool opn'] 24)) [.int .i64 cl, .int .i64 ch] 37 (w.heap.size + 1 + 1) (by simp)).keep (Gr.al _ (.cells #[.int .i64 cl', .int .i64 ch'] 37))
 have hC' := Box.new (((w.alloc (.cells #[.int .i64 tab, .slice pa pan.length pc, .int .i64 hei, .slice ta top.length tc, .slice ba bot.length bc, .int .i64 slo, .bool opn] 24)).alloc (.cells #[.int .i64 tab', .slice pa' pan'.length pc', .int .i64 hei', .slice ta' top'.length tc', .slice ba' bot'.length bc', .int .i64 slo', .bool opn'] 24)).alloc (.cells #[.int .i64 cl, .int .i64 ch] 37)) [.int .i64 cl', .int .i64 ch'] 37 (w.heap.size + 1 + 1 + 1) (by simp)
 have HG := Lib.hid G
 have HG' := Lib.hid G'
 have hcb := okSpan_four hc
 have hcb' := okSpan_four hc'
 have HCB := Lib.hid hcb
 have HCB' := Lib.hid hcb'
 have HCS : Hid (([⟨cl, ch⟩, ⟨cl', ch'⟩] : List Sp).all (okSp 1 10000) = true) := Lib.hid (by simp only [List.all_cons, List.all_nil, okSp, hc, hc', Bool.and_self])
 clear G G' hc hc' hcb hcb'
 go_enter Try.func32, Try.ntmps32
 go_upto_region 1 with fail
 refine wp_abs (fun W => Gr w W ∧ Box W w.heap.size [.int .i64 tab, .slice pa pan.length pc, .int .i64 hei, .slice ta top.length tc, .slice ba bot.length bc, .int .i64 slo, .bool opn] ∧ Box W (w.heap.size + 1) [.int .i64 tab', .slice pa' pan'.length pc', .int .i64 hei', .slice ta' top'.length tc', .slice ba' bot'.length bc', .int .i64 slo', .bool opn'] ∧ Box W (w.heap.size + 1 + 1) [.int .i64 cl, .int .i64 ch] ∧ Box W (w.heap.size + 1 + 1 + 1) [.int .i64 cl', .int .i64 ch']) ⟨gg, hB, hB', hC, hC'⟩ ?_
 clear gg hB hB' hC hC'
 rintro W ⟨gg, hB, hB', hC, hC'⟩
 refine wp_region_inv' 10 [(1, 0), (3, 2), (6, 4), (6, 5), (7, 6), (8, 1), (8, 3), (8, 7), (9, 8)] (fun a0 listed a v => ∃ (t15 t16 t17 t18 t19 t20 t21 t22 t23 t24 : Value), a = ⟨#[.agg #[.int .i64 tab, .slice pa pan.length pc, .int .i64 hei, .slice ta top.length tc, .slice ba bot.length bc, .int .i64 slo, .bool opn], .agg #[.int .i64 tab', .slice pa' pan'.length pc', .int .i64 hei', .slice ta' top'.length tc', .slice ba' bot'.length bc', .int .i64 slo', .bool opn'], .agg #[.int .i64 cl, .int .i64 ch], .agg #[.int .i64 cl', .int .i64 ch'], .pointer (some ⟨w.heap.size, 0, none⟩), .pointer (some ⟨(w.heap.size + 1), 0, none⟩), .pointer (some ⟨(w.heap.size + 1 + 1), 0, none⟩), .pointer (some ⟨(w.heap.size + 1 + 1 + 1), 0, none⟩), .slice none 0 0, .int .i64 0, undef, undef, undef, undef, undef, t15, t16, t17, t18, t19, t20, t21, t22, t23, t24, undef, undef, undef, undef, undef, undef, undef, undef, undef, undef, undef, undef, undef, undef, undef, undef, undef, undef, undef, undef, undef, undef, undef, undef, undef, undef], []⟩ ∧ Gr W v ∧ Fact listed 0 (t15 = .agg #[.int .i64 tab, .slice pa pan.length pc, .int .i64 hei, .slice ta top.length tc, .slice ba bot.length bc, .int .i64 slo, .bool opn]) ∧ Fact listed 1 (t16 = .int .i64 0) ∧ Fact listed 2 (t17 = .agg #[.int .i64 tab', .slice pa' pan'.length pc', .int .i64 hei', .slice ta' top'.length tc', .slice ba' bot'.length bc', .int .i64 slo', .bool opn']) ∧ Fact listed 3 (t18 = .int .i64 0) ∧ Fact listed 4 (t19 = .agg #[.int .i64 cl, .int .i64 ch]) ∧ Fact listed 5 (t20 = .agg #[.int .i64 cl', .int .i64 ch']) ∧ Fact listed 6 (CSp [⟨cl, ch⟩, ⟨cl', ch'⟩] v t21) ∧ Fact listed 7 (t22 = .int .i64 0) ∧ Fact listed 8 (CIn [0, 0, 0] v t23) ∧ Fact listed 9 (t24 = .int .i64 0)) (by kernel_rfl) (by kernel_rfl) (by kernel_rfl) ?init1 ?step1 ?fin1
 case init1 => exact ⟨_, _, _, _, _, _, _, _, _, _, by rfl, Gr.dr W, Fact.no _ _ _, Fact.no _ _ _, Fact.no _ _ _, Fact.no _ _ _, Fact.no _ _ _, Fact.no _ _ _, Fact.no _ _ _, Fact.no _ _ _, Fact.no _ _ _, Fact.no _ _ _⟩
 case step1 =>
  rintro i hi listed a v hun hdep ⟨t15, t16, t17, t18, t19, t20, t21, t22, t23, t24, rfl, gv, f0, f1, f2, f3, f4, f5, f6, f7, f8, f9⟩
  have hi8 : i = 0 ∨ i = 1 ∨ i = 2 ∨ i = 3 ∨ i = 4 ∨ i = 5 ∨ i = 6 ∨ i = 7 ∨ i = 8 ∨ i = 9 := by omega
  rcases hi8 with rfl | rfl | rfl | rfl | rfl | rfl | rfl | rfl | rfl | rfl
  ·clear hdep
   refine wpOp_step rfl (fun K' hK => ?_)
   rw [if_pos (by rfl)]
   refine wp_load_mid 24 _ rfl w.heap.size 0 (by rfl) [.int .i64 tab, .slice pa pan.length pc, .int .i64 hei, .slice ta top.length tc, .slice ba bot.length bc, .int .i64 slo, .bool opn] _ (fun j u hu => by rw [Nat.zero_add]; exact (hB.keep gv).2 j u hu) Try.underlying24 rfl (by kernel_rfl) ?_
   exact hK _ _ ⟨_, t16, t17, t18, t19, t20, t21, t22, t23, t24, by rfl, gv, Fact.lay (rfl), f1.keep (by decide), f2.keep (by decide), f3.keep (by decide), f4.keep (by decide), f5.keep (by decide), f6.keep (by decide), f7.keep (by decide), f8.keep (by decide), f9.keep (by decide)⟩
  ·have d0 := f0 (hdep 0 (by simp))
   subst d0
   clear hdep
   refine wpOp_step rfl (fun K' hK => ?_)
   go_simp
   refine (checkB_ok _ _ _ _ _ _ _ _ _ _ _ _ _ HG.out v (hp.grow (gg.tr gv)) (ht.grow (gg.tr gv)) (hb.grow (gg.tr gv))).mono ?_
   rintro e v' ⟨rfl, hg⟩
   exact hK _ _ ⟨_, _, t17, t18, t19, t20, t21, t22, t23, t24, by rfl, gv.tr hg, f0.keep (by decide), Fact.lay (rfl), f2.keep (by decide), f3.keep (by decide), f4.keep (by decide), f5.keep (by decide), (f6.keep (by decide)).map (fun h => h.up hg), f7.keep (by decide), (f8.keep (by decide)).map (fun h => h.up hg), f9.keep (by decide)⟩
  ·clear hdep
   refine wpOp_step rfl (fun K' hK => ?_)
   rw [if_pos (by rfl)]
   refine wp_load_mid 24 _ rfl (w.heap.size + 1) 0 (by rfl) [.int .i64 tab', .slice pa' pan'.length pc', .int .i64 hei', .slice ta' top'.length tc', .slice ba' bot'.length bc', .int .i64 slo', .bool opn'] _ (fun j u hu => by rw [Nat.zero_add]; exact (hB'.keep gv).2 j u hu) Try.underlying24 rfl (by kernel_rfl) ?_
   exact hK _ _ ⟨t15, t16, _, t18, t19, t20, t21, t22, t23, t24, by rfl, gv, f0.keep (by decide), f1.keep (by decide), Fact.lay (rfl), f3.keep (by decide), f4.keep (by decide), f5.keep (by decide), f6.keep (by decide), f7.keep (by decide), f8.keep (by decide), f9.keep (by decide)⟩
  ·have d2 := f2 (hdep 2 (by simp))
   subst d2
   clear hdep
   refine wpOp_step rfl (fun K' hK => ?_)
   go_simp
   refine (checkB_ok _ _ _ _ _ _ _ _ _ _ _ _ _ HG'.out v (hp'.grow (gg.tr gv)) (ht'.grow (gg.tr gv)) (hb'.grow (gg.tr gv))).mono ?_
   rintro e v' ⟨rfl, hg⟩
   exact hK _ _ ⟨t15, t16, _, _, t19, t20, t21, t22, t23, t24, by rfl, gv.tr hg, f0.keep (by decide), f1.keep (by decide), f2.keep (by decide), Fact.lay (rfl), f4.keep (by decide), f5.keep (by decide), (f6.keep (by decide)).map (fun h => h.up hg), f7.keep (by decide), (f8.keep (by decide)).map (fun h => h.up hg), f9.keep (by decide)⟩
  ·clear hdep
   refine wpOp_step rfl (fun K' hK => ?_)
   rw [if_pos (by rfl)]
   refine wp_load_mid 37 _ rfl (w.heap.size + 1 + 1) 0 (by rfl) [.int .i64 cl, .int .i64 ch] _ (fun j u hu => by rw [Nat.zero_add]; exact (hC.keep gv).2 j u hu) Try.underlying37 rfl (by kernel_rfl) ?_
   exact hK _ _ ⟨t15, t16, t17, t18, _, t20, t21, t22, t23, t24, by rfl, gv, f0.keep (by decide), f1.keep (by decide), f2.keep (by decide), f3.keep (by decide), Fact.lay (rfl), f5.keep (by decide), f6.keep (by decide), f7.keep (by decide), f8.keep (by decide), f9.keep (by decide)⟩
  ·clear hdep
   refine wpOp_step rfl (fun K' hK => ?_)
   rw [if_pos (by rfl)]
   refine wp_load_mid 37 _ rfl (w.heap.size + 1 + 1 + 1) 0 (by rfl) [.int .i64 cl', .int .i64 ch'] _ (fun j u hu => by rw [Nat.zero_add]; exact (hC'.keep gv).2 j u hu) Try.underlying37 rfl (by kernel_rfl) ?_
   exact hK _ _ ⟨t15, t16, t17, t18, t19, _, t21, t22, t23, t24, by rfl, gv, f0.keep (by decide), f1.keep (by decide), f2.keep (by decide), f3.keep (by decide), f4.keep (by decide), Fact.lay (rfl), f6.keep (by decide), f7.keep (by decide), f8.keep (by decide), f9.keep (by decide)⟩
  ·have d4 := f4 (hdep 4 (by simp))
   have d5 := f5 (hdep 5 (by simp))
   subst d4 d5
   clear hdep
   refine wpOp_step rfl (fun K' hK => ?_)
   go_simp
   have hg := Gr.al v (.cells #[.int .i64 cl, .int .i64 ch, .int .i64 cl', .int .i64 ch'] 37)
   exact hK _ _ ⟨t15, t16, t17, t18, _, _, _, t22, t23, t24, by rfl, gv.tr hg, f0.keep (by decide), f1.keep (by decide), f2.keep (by decide), f3.keep (by decide), f4.keep (by decide), f5.keep (by decide), Fact.lay (⟨_, _, rfl, SRow.new2 v 37 cl ch cl' ch' v.heap.size rfl⟩), f7.keep (by decide), (f8.keep (by decide)).map (fun h => h.up hg), f9.keep (by decide)⟩
  ·obtain ⟨a6, c6, rfl, r6⟩ := f6 (hdep 6 (by simp))
   clear hdep
   refine wpOp_step rfl (fun K' hK => ?_)
   go_simp
   refine (measured_ok [⟨cl, ch⟩, ⟨cl', ch'⟩] HCS.out _ _ v r6).mono ?_
   rintro e v' ⟨rfl, hg⟩
   exact hK _ _ ⟨t15, t16, t17, t18, t19, t20, _, _, t23, t24, by rfl, gv.tr hg, f0.keep (by decide), f1.keep (by decide), f2.keep (by decide), f3.keep (by decide), f4.keep (by decide), f5.keep (by decide), (f6.keep (by decide)).map (fun h => h.up hg), Fact.lay (rfl), (f8.keep (by decide)).map (fun h => h.up hg), f9.keep (by decide)⟩
  ·have d1 := f1 (hdep 1 (by simp))
   have d3 := f3 (hdep 3 (by simp))
   have d7 := f7 (hdep 7 (by simp))
   subst d1 d3 d7
   clear hdep
   refine wpOp_step rfl (fun K' hK => ?_)
   go_simp
   have hg := Gr.al v (.cells #[.int .i64 0, .int .i64 0, .int .i64 0] 28)
   exact hK _ _ ⟨t15, _, t17, _, t19, t20, t21, _, _, t24, by rfl, gv.tr hg, f0.keep (by decide), f1.keep (by decide), f2.keep (by decide), f3.keep (by decide), f4.keep (by decide), f5.keep (by decide), (f6.keep (by decide)).map (fun h => h.up hg), f7.keep (by decide), Fact.lay (⟨_, _, rfl, zeros_row v 28⟩), f9.keep (by decide)⟩
  ·obtain ⟨a8, c8, rfl, r8⟩ := f8 (hdep 8 (by simp))
   clear hdep
   refine wpOp_step rfl (fun K' hK => ?_)
   go_simp
   refine (first_three _ _ v r8).mono ?_
   rintro e v' ⟨rfl, hg⟩
   exact hK _ _ ⟨t15, t16, t17, t18, t19, t20, t21, t22, _, _, by rfl, gv.tr hg, f0.keep (by decide), f1.keep (by decide), f2.keep (by decide), f3.keep (by decide), f4.keep (by decide), f5.keep (by decide), (f6.keep (by decide)).map (fun h => h.up hg), f7.keep (by decide), (f8.keep (by decide)).map (fun h => h.up hg), Fact.lay (rfl)⟩
 case fin1 =>
  rintro listed a v hls hall ⟨t15, t16, t17, t18, t19, t20, t21, t22, t23, t24, rfl, gv, f0, f1, f2, f3, f4, f5, f6, f7, f8, f9⟩
  have d9 := f9.now hall hls (by omega)
  subst d9
  clear f0 f1 f2 f3 f4 f5 f6 f7 f8 f9 hall hls
  show wpList _ _ _ (List.drop 10 _) _ _
  simp only [List.drop_succ_cons, List.drop_zero]
  go_upto_region 4 with fail
  have hB := hB.keep gv
  have hB' := hB'.keep gv
  have hC := hC.keep gv
  have hC' := hC'.keep gv
  have gg := gg.tr gv
  clear gv
  refine (show (∀ s : Nat → Value, Code.wp Try.prog _ _ ⟨#[s 0, s 1, s 2, s 3, .pointer (some ⟨w.heap.size, 0, none⟩), .pointer (some ⟨(w.heap.size + 1), 0, none⟩), .pointer (some ⟨(w.heap.size + 1 + 1), 0, none⟩), .pointer (some ⟨(w.heap.size + 1 + 1 + 1), 0, none⟩), .slice none 0 0, .int .i64 0, s 10, undef, undef, undef, undef, s 15, s 16, s 17, s 18, s 19, s 20, s 21, s 22, s 23, s 24, s 25, s 26, undef, undef, undef, undef, undef, undef, undef, undef, undef, undef, undef, undef, undef, undef, undef, undef, undef, undef, undef, undef, undef, undef, undef, undef], []⟩ _) → _ from fun h => h ((fun l : List Value => fun i => l.getD i undef) [_, _, _, _, undef, undef, undef, undef, undef, undef, _, undef, undef, undef, undef, _, _, _, _, _, _, _, _, _, _, _, _])) ?_
  intro s
  dsimp only
  refine wp_region_inv' 6 [(1, 0), (3, 2)] (fun a0 listed a v' => ∃ (t28 t29 t30 t31 t11 t12 : Value) (Bs : List Nat), a = ⟨#[s 0, s 1, s 2, s 3, .pointer (some ⟨w.heap.size, 0, none⟩), .pointer (some ⟨(w.heap.size + 1), 0, none⟩), .pointer (some ⟨(w.heap.size + 1 + 1), 0, none⟩), .pointer (some ⟨(w.heap.size + 1 + 1 + 1), 0, none⟩), .slice none 0 0, .int .i64 0, s 10, t11, t12, undef, undef, s 15, s 16, s 17, s 18, s 19, s 20, s 21, s 22, s 23, s 24, s 25, s 26, undef, t28, t29, t30, t31, undef, undef, undef, undef, undef, undef, undef, undef, undef, undef, undef, undef, undef, undef, undef, undef, undef, undef, undef], []⟩ ∧ Sep v v' [] Bs ∧ Fact listed 0 (t28 = .agg #[.int .i64 tab, .slice pa pan.length pc, .int .i64 hei, .slice ta top.length tc, .slice ba bot.length bc, .int .i64 slo, .bool opn]) ∧ Fact listed 1 (t29 = .agg #[.int .i64 tab, .slice pa pan.length pc, .int .i64 hei, .slice ta top.length tc, .slice ba bot.length bc, .int .i64 slo, .bool opn, .int .i64 0, .slice ta top.length tc, .slice ba bot.length bc]) ∧ Fact listed 2 (t30 = .agg #[.int .i64 tab', .slice pa' pan'.length pc', .int .i64 hei', .slice ta' top'.length tc', .slice ba' bot'.length bc', .int .i64 slo', .bool opn']) ∧ Fact listed 3 (t31 = .agg #[.int .i64 tab', .slice pa' pan'.length pc', .int .i64 hei', .slice ta' top'.length tc', .slice ba' bot'.length bc', .int .i64 slo', .bool opn', .int .i64 0, .slice ta' top'.length tc', .slice ba' bot'.length bc']) ∧ Fact listed 4 (CPtr [.int .i64 0, .slice none 0 0, .int .i64 0, .slice none 0 0, .slice none 0 0, .int .i64 0, .bool false, .int .i64 0, .slice none 0 0, .slice none 0 0] 124 v' Bs t11) ∧ Fact listed 5 (CPtr [.int .i64 0, .slice none 0 0, .int .i64 0, .slice none 0 0, .slice none 0 0, .int .i64 0, .bool false, .int .i64 0, .slice none 0 0, .slice none 0 0] 124 v' Bs t12) ∧ Fact listed 4 (Fact listed 5 (t11 ≠ t12))) (by kernel_rfl) (by kernel_rfl) (by kernel_rfl) ?init4 ?step4 ?fin4
  case init4 => exact ⟨undef, undef, undef, undef, undef, undef, [], by rfl, ⟨Gr.dr v, by simp, by simp⟩, Fact.no _ _ _, Fact.no _ _ _, Fact.no _ _ _, Fact.no _ _ _, Fact.no _ _ _, Fact.no _ _ _, Fact.no _ _ _⟩
  case step4 =>
   rintro i hi listed a v' hun hdep ⟨t28, t29, t30, t31, t11, t12, Bs, rfl, hsep, f0, f1, f2, f3, f4, f5, f6⟩
   have hi8 : i = 0 ∨ i = 1 ∨ i = 2 ∨ i = 3 ∨ i = 4 ∨ i = 5 := by omega
   rcases hi8 with rfl | rfl | rfl | rfl | rfl | rfl
   ·clear hdep
    refine wpOp_step rfl (fun K' hK => ?_)
    rw [if_pos (by rfl)]
    refine wp_load_mid 24 _ rfl w.heap.size 0 (by rfl) [.int .i64 tab, .slice pa pan.length pc, .int .i64 hei, .slice ta top.length tc, .slice ba bot.length bc, .int .i64 slo, .bool opn] _ (fun j u hu => by rw [Nat.zero_add]; exact (hB.keep hsep.gr).2 j u hu) Try.underlying24 rfl (by kernel_rfl) ?_
    exact hK _ _ ⟨_, t29, t30, t31, t11, t12, Bs, by rfl, hsep, Fact.lay rfl, f1.keep (by decide), f2.keep (by decide), f3.keep (by decide), f4.keep (by decide), f5.keep (by decide), (f6.keep (by decide)).map (fun h => h.keep (by decide))⟩
   ·have d0 := f0 (hdep 0 (by simp))
    subst d0
    clear hdep
    refine wpOp_step rfl (fun K' hK => ?_)
    go_simp
    refine (layS_any _ _ _ _ _ _ _ _ _ _ _ _ _ _ v').mono ?_
    rintro e v2 ⟨rfl, hg⟩
    have s1 := hsep.call hg [] (by simp)
    exact hK _ _ ⟨_, _, t30, t31, t11, t12, Bs, by rfl, s1, f0.keep (by decide), Fact.lay rfl, f2.keep (by decide), f3.keep (by decide), (f4.keep (by decide)).map (fun h => h.up hg (mem_same _)), (f5.keep (by decide)).map (fun h => h.up hg (mem_same _)), (f6.keep (by decide)).map (fun h => h.keep (by decide))⟩
   ·clear hdep
    refine wpOp_step rfl (fun K' hK => ?_)
    rw [if_pos (by rfl)]
    refine wp_load_mid 24 _ rfl (w.heap.size + 1) 0 (by rfl) [.int .i64 tab', .slice pa' pan'.length pc', .int .i64 hei', .slice ta' top'.length tc', .slice ba' bot'.length bc', .int .i64 slo', .bool opn'] _ (fun j u hu => by rw [Nat.zero_add]; exact (hB'.keep hsep.gr).2 j u hu) Try.underlying24 rfl (by kernel_rfl) ?_
    exact hK _ _ ⟨t28, t29, _, t31, t11, t12, Bs, by rfl, hsep, f0.keep (by decide), f1.keep (by decide), Fact.lay rfl, f3.keep (by decide), f4.keep (by decide), f5.keep (by decide), (f6.keep (by decide)).map (fun h => h.keep (by decide))⟩
   ·have d2 := f2 (hdep 2 (by simp))
    subst d2
    clear hdep
    refine wpOp_step rfl (fun K' hK => ?_)
    go_simp
    refine (layS_any _ _ _ _ _ _ _ _ _ _ _ _ _ _ v').mono ?_
    rintro e v2 ⟨rfl, hg⟩
    have s1 := hsep.call hg [] (by simp)
    exact hK _ _ ⟨t28, t29, _, _, t11, t12, Bs, by rfl, s1, f0.keep (by decide), f1.keep (by decide), f2.keep (by decide), Fact.lay rfl, (f4.keep (by decide)).map (fun h => h.up hg (mem_same _)), (f5.keep (by decide)).map (fun h => h.up hg (mem_same _)), (f6.keep (by decide)).map (fun h => h.keep (by decide))⟩
   ·clear hdep
    refine wpOp_step rfl (fun K' hK => ?_)
    go_simp
    have hg := Gr.al v' (.cells (List.toArray [.int .i64 0, .slice none 0 0, .int .i64 0, .slice none 0 0, .slice none 0 0, .int .i64 0, .bool false, .int .i64 0, .slice none 0 0, .slice none 0 0]) 124)
    have s1 := hsep.al (.cells (List.toArray [.int .i64 0, .slice none 0 0, .int .i64 0, .slice none 0 0, .slice none 0 0, .int .i64 0, .bool false, .int .i64 0, .slice none 0 0, .slice none 0 0]) 124)
    exact hK _ _ ⟨t28, t29, t30, t31, _, t12, _, by rfl, s1, f0.keep (by decide), f1.keep (by decide), f2.keep (by decide), f3.keep (by decide), Fact.lay (CPtr.new v' [.int .i64 0, .slice none 0 0, .int .i64 0, .slice none 0 0, .slice none 0 0, .int .i64 0, .bool false, .int .i64 0, .slice none 0 0, .slice none 0 0] 124 Bs), (f5.keep (by decide)).map (fun h => h.up hg (mem_con _ _)), Fact.lay (fun e5 => by obtain ⟨B, eB, hB0, _⟩ := f5 (by rwa [getD_set_ne false (by decide)] at e5); rw [eB]; intro e; have hlt_ := (hsep.bs B hB0).2; cases e; exact Nat.lt_irrefl _ hlt_)⟩
   ·clear hdep
    refine wpOp_step rfl (fun K' hK => ?_)
    go_simp
    have hg := Gr.al v' (.cells (List.toArray [.int .i64 0, .slice none 0 0, .int .i64 0, .slice none 0 0, .slice none 0 0, .int .i64 0, .bool false, .int .i64 0, .slice none 0 0, .slice none 0 0]) 124)
    have s1 := hsep.al (.cells (List.toArray [.int .i64 0, .slice none 0 0, .int .i64 0, .slice none 0 0, .slice none 0 0, .int .i64 0, .bool false, .int .i64 0, .slice none 0 0, .slice none 0 0]) 124)
    exact hK _ _ ⟨t28, t29, t30, t31, t11, _, _, by rfl, s1, f0.keep (by decide), f1.keep (by decide), f2.keep (by decide), f3.keep (by decide), (f4.keep (by decide)).map (fun h => h.up hg (mem_con _ _)), Fact.lay (CPtr.new v' [.int .i64 0, .slice none 0 0, .int .i64 0, .slice none 0 0, .slice none 0 0, .int .i64 0, .bool false, .int .i64 0, .slice none 0 0, .slice none 0 0] 124 Bs), fun e4 => Fact.lay (by obtain ⟨B, eB, hB0, _⟩ := f4 (by rwa [getD_set_ne false (by decide)] at e4); rw [eB]; intro e; have hlt_ := (hsep.bs B hB0).2; cases e; exact Nat.lt_irrefl _ hlt_)⟩
  case fin4 =>
   rintro listed a v' hls hall ⟨t28, t29, t30, t31, t11, t12, Bs, rfl, hsep, f0, f1, f2, f3, f4, f5, f6⟩
   have d1 := f1.now hall hls (by omega)
   have d3 := f3.now hall hls (by omega)
   have d0 := f0.now hall hls (by omega)
   have d2 := f2.now hall hls (by omega)
   obtain ⟨D1, rfl, k1, z1⟩ := f4.now hall hls (by omega)
   obtain ⟨D2, rfl, k2, z2⟩ := f5.now hall hls (by omega)
   have n12 : D1 ≠ D2 := fun e => ((f6.now hall hls (by omega)).now hall hls (by omega)) (by rw [e])
   have n21 := n12.symm
   subst d0 d1 d2 d3
   have o1 := z1.own
   have o2 := z2.own
   have l1 : v.heap.size ≤ D1 := (hsep.bs D1 k1).1
   have l2 : v.heap.size ≤ D2 := (hsep.bs D2 k2).1
   have gv := hsep.gr
   clear f0 f1 f2 f3 f4 f5 f6 z1 z2 hall hls hsep k1 k2
   obtain ⟨u0, u1, u2, u3, u4, u5, u6, u7, u8, u9⟩ := o1.1.c10
   obtain ⟨v0, v1, v2, v3, v4, v5, v6, v7, v8, v9⟩ := o2.1.c10
   have y0 := o1.2 0
   have y1 := o1.2 1
   have y2 := o1.2 2
   have y3 := o1.2 3
   have y4 := o1.2 4
   have y5 := o1.2 5
   have y6 := o1.2 6
   have y7 := o1.2 7
   have y8 := o1.2 8
   have y9 := o1.2 9
   have q0 := o2.2 0
   have q1 := o2.2 1
   have q2 := o2.2 2
   have q3 := o2.2 3
   have q4 := o2.2 4
   have q5 := o2.2 5
   have q6 := o2.2 6
   have q7 := o2.2 7
   have q8 := o2.2 8
   have q9 := o2.2 9
   show wpList _ _ _ (List.drop 6 _) _ _
   simp only [List.drop_succ_cons, List.drop_zero]
   go_upto_region 5 with fail
   clear u0 v0 y0 q0 u1 v1 y1 q1 u2 v2 y2 q2 u3 v3 y3 q3 u4 v4 y4 q4 u5 v5 y5 q5 u6 v6 y6 q6 u7 v7 y7 q7 u8 v8 y8 q8 u9 v9 y9 q9
   refine wp_abs (fun U => Gr v U ∧ Box U D1 [.int .i64 tab, .slice pa pan.length pc, .int .i64 hei, .slice ta top.length tc, .slice ba bot.length bc, .int .i64 slo, .bool opn, .int .i64 0, .slice ta top.length tc, .slice ba bot.length bc] ∧ Box U D2 [.int .i64 tab', .slice pa' pan'.length pc', .int .i64 hei', .slice ta' top'.length tc', .slice ba' bot'.length bc', .int .i64 slo', .bool opn', .int .i64 0, .slice ta' top'.length tc', .slice ba' bot'.length bc']) ⟨((((((((((((((((((((gv.setCell (show v.heap.size ≤ D1 from l1) _).setCell (show v.heap.size ≤ D1 from l1) _).setCell (show v.heap.size ≤ D1 from l1) _).setCell (show v.heap.size ≤ D1 from l1) _).setCell (show v.heap.size ≤ D1 from l1) _).setCell (show v.heap.size ≤ D1 from l1) _).setCell (show v.heap.size ≤ D1 from l1) _).setCell (show v.heap.size ≤ D1 from l1) _).setCell (show v.heap.size ≤ D1 from l1) _).setCell (show v.heap.size ≤ D1 from l1) _).setCell (show v.heap.size ≤ D2 from l2) _).setCell (show v.heap.size ≤ D2 from l2) _).setCell (show v.heap.size ≤ D2 from l2) _).setCell (show v.heap.size ≤ D2 from l2) _).setCell (show v.heap.size ≤ D2 from l2) _).setCell (show v.heap.size ≤ D2 from l2) _).setCell (show v.heap.size ≤ D2 from l2) _).setCell (show v.heap.size ≤ D2 from l2) _).setCell (show v.heap.size ≤ D2 from l2) _).setCell (show v.heap.size ≤ D2 from l2) _), ((((((((((((((((((((o1.set (i := 0) (by simp)).set (i := 1) (by simp)).set (i := 2) (by simp)).set (i := 3) (by simp)).set (i := 4) (by simp)).set (i := 5) (by simp)).set (i := 6) (by simp)).set (i := 7) (by simp)).set (i := 8) (by simp)).set (i := 9) (by simp)).other n12).other n12).other n12).other n12).other n12).other n12).other n12).other n12).other n12).other n12).1, ((((((((((((((((((((o2.other n21).other n21).other n21).other n21).other n21).other n21).other n21).other n21).other n21).other n21).set (i := 0) (by simp)).set (i := 1) (by simp)).set (i := 2) (by simp)).set (i := 3) (by simp)).set (i := 4) (by simp)).set (i := 5) (by simp)).set (i := 6) (by simp)).set (i := 7) (by simp)).set (i := 8) (by simp)).set (i := 9) (by simp)).1⟩ ?_
   clear gv o1 o2 n12 n21 l1 l2
   rintro U ⟨gU, bX, bX'⟩
   have gg := gg.tr gU
   have hC := hC.keep gU
   have hC' := hC'.keep gU
   clear hB hB' gU
   obtain ⟨i0, hi, hz0, hz1, hz2⟩ := info_parts infoSpan
   obtain ⟨w8, hmk, hown, hgrow⟩ := run_make_own (P := Try.prog) U U.heap.size 38 37 i0 (.agg #[.int .i64 0, .int .i64 0]) 2 Try.underlying38 hi hz0 hz1 .i64 .i64 4 (by rw [hz2]; omega) (by unfold maxLen; omega) (Nat.le_refl _)
   have hgU : Gr U w8 := (Below.refl _ U).grown hgrow (Nat.le_refl _) (fun b hb' => by cases hb')
   rw [show ((4 : Nat) : Int) = 4 from rfl] at hmk
   go_wp2
   clear hgrow hmk
   refine (show (∀ s : Nat → Value, Code.wp Try.prog _ _ ⟨#[s 0, s 1, s 2, s 3, .pointer (some ⟨w.heap.size, 0, none⟩), .pointer (some ⟨(w.heap.size + 1), 0, none⟩), .pointer (some ⟨(w.heap.size + 1 + 1), 0, none⟩), .pointer (some ⟨(w.heap.size + 1 + 1 + 1), 0, none⟩), .slice none 0 0, .int .i64 0, s 10, .pointer (some ⟨D1, 0, none⟩), .pointer (some ⟨D2, 0, none⟩), _, undef, s 15, s 16, s 17, s 18, s 19, s 20, s 21, s 22, s 23, s 24, s 25, s 26, s 27, s 28, s 29, s 30, s 31, s 32, _, undef, undef, undef, undef, undef, undef, undef, undef, undef, undef, undef, undef, undef, undef, undef, undef, undef], []⟩ _) → _ from fun h => h ((fun l : List Value => fun i => l.getD i undef) [_, _, _, _, undef, undef, undef, undef, undef, undef, _, undef, undef, undef, undef, _, _, _, _, _, _, _, _, _, _, _, _, _, _, _, _, _, _])) ?_
   intro s
   dsimp only
   go_loopw [33, 13] (fun i v wr => Hid (∃ (k : Nat) (vv : Value), k ≤ 4 ∧ i = .int .i64 k ∧ v = vv ∧ Gr U wr ∧ wr.ownsRow U.heap.size 37 2 vv k ((playL hei pan top bot opn cl ch hei' pan' top' bot' opn' cl' ch' k).flatMap encS))) (fun i v wr => 4 - (intOf i).toNat)
   case atStart => exact Lib.hid ⟨0, _, Nat.zero_le _, rfl, rfl, hgU, hown⟩
   case round =>
    clear hown hgU
    obtain ⟨k, vv, hk, rfl, hvv, gV, hown⟩ := hrel.out
    obtain rfl := hvv.symm
    clear hrel
    by_cases hlt : k < 4
    ·have g9 := gg.tr gV
     have k9 : k < 9 := by omega
     obtain ⟨cb0, cb1, cb2, cb3⟩ := HCB.out
     obtain ⟨cb0', cb1', cb2', cb3'⟩ := HCB'.out
     have hk1 : k + 1 ≤ maxLen := by unfold maxLen; omega
     have hk2 : (k + 1) * 16 ≤ 140737488355328 := by omega
     go_upto_region 9 with fail
     have bX1 := bX.keep gV
     have bX1' := bX'.keep gV
     have bC1 := hC.keep gV
     have bC1' := hC'.keep gV
     refine wp_region_inv' 12 [(4, 1), (4, 2), (4, 3), (7, 5), (7, 6), (9, 7), (9, 8), (10, 4), (10, 9), (11, 10)] (fun a0 listed a v => ∃ (r : Nat → Value) (t36 t37 t38 t39 t40 t41 t42 t43 t44 t45 t46 t47 : Value), a = ⟨#[s 0, s 1, s 2, s 3, .pointer (some ⟨w.heap.size, 0, none⟩), .pointer (some ⟨(w.heap.size + 1), 0, none⟩), .pointer (some ⟨(w.heap.size + 1 + 1), 0, none⟩), .pointer (some ⟨(w.heap.size + 1 + 1 + 1), 0, none⟩), .slice none 0 0, .int .i64 0, s 10, .pointer (some ⟨D1, 0, none⟩), .pointer (some ⟨D2, 0, none⟩), vv, .int .i64 k, s 15, s 16, s 17, s 18, s 19, s 20, s 21, s 22, s 23, s 24, s 25, s 26, s 27, s 28, s 29, s 30, s 31, s 32, .int .i64 k, r 34, r 35, t36, t37, t38, t39, t40, t41, t42, t43, t44, t45, t46, t47, r 48, r 49, undef], []⟩ ∧ Gr wr v ∧ Fact listed 0 (t36 = vv) ∧ Fact listed 1 (t37 = .agg #[.int .i64 tab, .slice pa pan.length pc, .int .i64 hei, .slice ta top.length tc, .slice ba bot.length bc, .int .i64 slo, .bool opn, .int .i64 0, .slice ta top.length tc, .slice ba bot.length bc]) ∧ Fact listed 2 (t38 = .int .i64 k) ∧ Fact listed 3 (t39 = .agg #[.int .i64 cl, .int .i64 ch]) ∧ Fact listed 4 (t40 = .agg #[.int .i64 (innerAt 0 hei pan top bot opn cl ch k).lo, .int .i64 (innerAt 0 hei pan top bot opn cl ch k).hi]) ∧ Fact listed 5 (t41 = .agg #[.int .i64 tab', .slice pa' pan'.length pc', .int .i64 hei', .slice ta' top'.length tc', .slice ba' bot'.length bc', .int .i64 slo', .bool opn', .int .i64 0, .slice ta' top'.length tc', .slice ba' bot'.length bc']) ∧ Fact listed 6 (t42 = .int .i64 k) ∧ Fact listed 7 (t43 = .agg #[.int .i64 (flatAt 0 hei' pan' top' bot' opn' k).lo, .int .i64 (flatAt 0 hei' pan' top' bot' opn' k).hi]) ∧ Fact listed 8 (t44 = .agg #[.int .i64 cl', .int .i64 ch']) ∧ Fact listed 9 (CSp [flatAt 0 hei' pan' top' bot' opn' k, ⟨cl', ch'⟩] v t45) ∧ Fact listed 10 (t46 = .agg #[.int .i64 (playAt hei pan top bot opn cl ch hei' pan' top' bot' opn' cl' ch' k).lo, .int .i64 (playAt hei pan top bot opn cl ch hei' pan' top' bot' opn' cl' ch' k).hi]) ∧ Fact listed 11 (COne (playAt hei pan top bot opn cl ch hei' pan' top' bot' opn' cl' ch' k).lo (playAt hei pan top bot opn cl ch hei' pan' top' bot' opn' cl' ch' k).hi v t47)) (by kernel_rfl) (by kernel_rfl) (by kernel_rfl) ?init9 ?step9 ?fin9
     case init9 => exact ⟨(fun l : List Value => fun i => l.getD i undef) [undef, undef, undef, undef, undef, undef, undef, undef, undef, undef, undef, undef, undef, undef, undef, undef, undef, undef, undef, undef, undef, undef, undef, undef, undef, undef, undef, undef, undef, undef, undef, undef, undef, undef, _, _, undef, undef, undef, undef, undef, undef, undef, undef, undef, undef, undef, undef, _, _], _, _, _, _, _, _, _, _, _, _, _, _, by rfl, Gr.dr wr, Fact.no _ _ _, Fact.no _ _ _, Fact.no _ _ _, Fact.no _ _ _, Fact.no _ _ _, Fact.no _ _ _, Fact.no _ _ _, Fact.no _ _ _, Fact.no _ _ _, Fact.no _ _ _, Fact.no _ _ _, Fact.no _ _ _⟩
     case step9 =>
      rintro i hi listed a v hun hdep ⟨r, t36, t37, t38, t39, t40, t41, t42, t43, t44, t45, t46, t47, rfl, gv, f0, f1, f2, f3, f4, f5, f6, f7, f8, f9, f10, f11⟩
      have hi8 : i = 0 ∨ i = 1 ∨ i = 2 ∨ i = 3 ∨ i = 4 ∨ i = 5 ∨ i = 6 ∨ i = 7 ∨ i = 8 ∨ i = 9 ∨ i = 10 ∨ i = 11 := by omega
      rcases hi8 with rfl | rfl | rfl | rfl | rfl | rfl | rfl | rfl | rfl | rfl | rfl | rfl
      ·clear hdep
       refine wpOp_step rfl (fun K' hK => ?_)
       go_simp
       exact hK _ _ ⟨r, _, t37, t38, t39, t40, t41, t42, t43, t44, t45, t46, t47, by rfl, gv, Fact.lay (rfl), f1.keep (by decide), f2.keep (by decide), f3.keep (by decide), f4.keep (by decide), f5.keep (by decide), f6.keep (by decide), f7.keep (by decide), f8.keep (by decide), f9.keep (by decide), f10.keep (by decide), f11.keep (by decide)⟩
      ·clear hdep
       refine wpOp_step rfl (fun K' hK => ?_)
       rw [if_pos (by rfl)]
       refine wp_load_mid 124 _ rfl D1 0 (by rfl) [.int .i64 tab, .slice pa pan.length pc, .int .i64 hei, .slice ta top.length tc, .slice ba bot.length bc, .int .i64 slo, .bool opn, .int .i64 0, .slice ta top.length tc, .slice ba bot.length bc] _ (fun j u hu => by rw [Nat.zero_add]; exact (bX1.keep gv).2 j u hu) Try.underlying124 rfl (by kernel_rfl) ?_
       exact hK _ _ ⟨r, t36, _, t38, t39, t40, t41, t42, t43, t44, t45, t46, t47, by rfl, gv, f0.keep (by decide), Fact.lay (rfl), f2.keep (by decide), f3.keep (by decide), f4.keep (by decide), f5.keep (by decide), f6.keep (by decide), f7.keep (by decide), f8.keep (by decide), f9.keep (by decide), f10.keep (by decide), f11.keep (by decide)⟩
      ·clear hdep
       refine wpOp_step rfl (fun K' hK => ?_)
       go_simp
       exact hK _ _ ⟨r, t36, t37, _, t39, t40, t41, t42, t43, t44, t45, t46, t47, by rfl, gv, f0.keep (by decide), f1.keep (by decide), Fact.lay (rfl), f3.keep (by decide), f4.keep (by decide), f5.keep (by decide), f6.keep (by decide), f7.keep (by decide), f8.keep (by decide), f9.keep (by decide), f10.keep (by decide), f11.keep (by decide)⟩
      ·clear hdep
       refine wpOp_step rfl (fun K' hK => ?_)
       rw [if_pos (by rfl)]
       refine wp_load_mid 37 _ rfl (w.heap.size + 1 + 1) 0 (by rfl) [.int .i64 cl, .int .i64 ch] _ (fun j u hu => by rw [Nat.zero_add]; exact (bC1.keep gv).2 j u hu) Try.underlying37 rfl (by kernel_rfl) ?_
       exact hK _ _ ⟨r, t36, t37, t38, _, t40, t41, t42, t43, t44, t45, t46, t47, by rfl, gv, f0.keep (by decide), f1.keep (by decide), f2.keep (by decide), Fact.lay (rfl), f4.keep (by decide), f5.keep (by decide), f6.keep (by decide), f7.keep (by decide), f8.keep (by decide), f9.keep (by decide), f10.keep (by decide), f11.keep (by decide)⟩
      ·have d1 := f1 (hdep 1 (by simp))
       have d2 := f2 (hdep 2 (by simp))
       have d3 := f3 (hdep 3 (by simp))
       subst d1 d2 d3
       clear hdep
       refine wpOp_step rfl (fun K' hK => ?_)
       go_simp
       refine (inside_all _ _ _ 0 _ _ _ _ _ _ _ _ _ _ cl ch HG.out (by omega) (by omega) cb0 cb1 cb2 cb3 k k9 v (hp.grow (g9.tr gv)) (ht.grow (g9.tr gv)) (hb.grow (g9.tr gv))).mono ?_
       rintro e v' ⟨rfl, hg⟩
       exact hK _ _ ⟨r, t36, _, _, _, _, t41, t42, t43, t44, t45, t46, t47, by rfl, gv.tr hg, f0.keep (by decide), f1.keep (by decide), f2.keep (by decide), f3.keep (by decide), Fact.lay (rfl), f5.keep (by decide), f6.keep (by decide), f7.keep (by decide), f8.keep (by decide), (f9.keep (by decide)).map (fun h => h.up hg), f10.keep (by decide), (f11.keep (by decide)).map (fun h => h.up hg)⟩
      ·clear hdep
       refine wpOp_step rfl (fun K' hK => ?_)
       rw [if_pos (by rfl)]
       refine wp_load_mid 124 _ rfl D2 0 (by rfl) [.int .i64 tab', .slice pa' pan'.length pc', .int .i64 hei', .slice ta' top'.length tc', .slice ba' bot'.length bc', .int .i64 slo', .bool opn', .int .i64 0, .slice ta' top'.length tc', .slice ba' bot'.length bc'] _ (fun j u hu => by rw [Nat.zero_add]; exact (bX1'.keep gv).2 j u hu) Try.underlying124 rfl (by kernel_rfl) ?_
       exact hK _ _ ⟨r, t36, t37, t38, t39, t40, _, t42, t43, t44, t45, t46, t47, by rfl, gv, f0.keep (by decide), f1.keep (by decide), f2.keep (by decide), f3.keep (by decide), f4.keep (by decide), Fact.lay (rfl), f6.keep (by decide), f7.keep (by decide), f8.keep (by decide), f9.keep (by decide), f10.keep (by decide), f11.keep (by decide)⟩
      ·clear hdep
       refine wpOp_step rfl (fun K' hK => ?_)
       go_simp
       exact hK _ _ ⟨r, t36, t37, t38, t39, t40, t41, _, t43, t44, t45, t46, t47, by rfl, gv, f0.keep (by decide), f1.keep (by decide), f2.keep (by decide), f3.keep (by decide), f4.keep (by decide), f5.keep (by decide), Fact.lay (rfl), f7.keep (by decide), f8.keep (by decide), f9.keep (by decide), f10.keep (by decide), f11.keep (by decide)⟩
      ·have d5 := f5 (hdep 5 (by simp))
       have d6 := f6 (hdep 6 (by simp))
       subst d5 d6
       clear hdep
       refine wpOp_step rfl (fun K' hK => ?_)
       go_simp
       refine (flat_all _ _ _ 0 _ _ _ _ _ _ _ _ _ _ HG'.out (by omega) (by omega) k k9 v (hp'.grow (g9.tr gv)) (ht'.grow (g9.tr gv)) (hb'.grow (g9.tr gv))).mono ?_
       rintro e v' ⟨rfl, hg⟩
       exact hK _ _ ⟨r, t36, t37, t38, t39, t40, _, _, _, t44, t45, t46, t47, by rfl, gv.tr hg, f0.keep (by decide), f1.keep (by decide), f2.keep (by decide), f3.keep (by decide), f4.keep (by decide), f5.keep (by decide), f6.keep (by decide), Fact.lay (rfl), f8.keep (by decide), (f9.keep (by decide)).map (fun h => h.up hg), f10.keep (by decide), (f11.keep (by decide)).map (fun h => h.up hg)⟩
      ·clear hdep
       refine wpOp_step rfl (fun K' hK => ?_)
       rw [if_pos (by rfl)]
       refine wp_load_mid 37 _ rfl (w.heap.size + 1 + 1 + 1) 0 (by rfl) [.int .i64 cl', .int .i64 ch'] _ (fun j u hu => by rw [Nat.zero_add]; exact (bC1'.keep gv).2 j u hu) Try.underlying37 rfl (by kernel_rfl) ?_
       exact hK _ _ ⟨r, t36, t37, t38, t39, t40, t41, t42, t43, _, t45, t46, t47, by rfl, gv, f0.keep (by decide), f1.keep (by decide), f2.keep (by decide), f3.keep (by decide), f4.keep (by decide), f5.keep (by decide), f6.keep (by decide), f7.keep (by decide), Fact.lay (rfl), f9.keep (by decide), f10.keep (by decide), f11.keep (by decide)⟩
      ·have d7 := f7 (hdep 7 (by simp))
       have d8 := f8 (hdep 8 (by simp))
       subst d7 d8
       clear hdep
       refine wpOp_step rfl (fun K' hK => ?_)
       go_simp
       have hg := Gr.al v (.cells #[.int .i64 (flatAt 0 hei' pan' top' bot' opn' k).lo, .int .i64 (flatAt 0 hei' pan' top' bot' opn' k).hi, .int .i64 cl', .int .i64 ch'] 37)
       exact hK _ _ ⟨r, t36, t37, t38, t39, t40, t41, t42, _, _, _, t46, t47, by rfl, gv.tr hg, f0.keep (by decide), f1.keep (by decide), f2.keep (by decide), f3.keep (by decide), f4.keep (by decide), f5.keep (by decide), f6.keep (by decide), f7.keep (by decide), f8.keep (by decide), Fact.lay (⟨_, _, rfl, SRow.new2 v 37 (flatAt 0 hei' pan' top' bot' opn' k).lo (flatAt 0 hei' pan' top' bot' opn' k).hi cl' ch' v.heap.size rfl⟩), f10.keep (by decide), (f11.keep (by decide)).map (fun h => h.up hg)⟩
      ·have d4 := f4 (hdep 4 (by simp))
       obtain ⟨a9, c9, rfl, r9⟩ := f9 (hdep 9 (by simp))
       subst d4
       clear hdep
       refine wpOp_step rfl (fun K' hK => ?_)
       go_simp
       refine (less_any (innerAt 0 hei pan top bot opn cl ch k) [flatAt 0 hei' pan' top' bot' opn' k, ⟨cl', ch'⟩] (by simp) (inner_bd HG.out cb0 cb1 cb2 cb3 k9) (two_bd (flat_bd (off := 0) HG'.out (by omega) (by omega) k9) cb0' cb1' cb2' cb3') _ _ v r9).mono ?_
       rintro e v' ⟨rfl, hg⟩
       exact hK _ _ ⟨r, t36, t37, t38, t39, _, t41, t42, t43, t44, _, _, t47, by rfl, gv.tr hg, f0.keep (by decide), f1.keep (by decide), f2.keep (by decide), f3.keep (by decide), f4.keep (by decide), f5.keep (by decide), f6.keep (by decide), f7.keep (by decide), f8.keep (by decide), (f9.keep (by decide)).map (fun h => h.up hg), Fact.lay (rfl), (f11.keep (by decide)).map (fun h => h.up hg)⟩
      ·have d10 := f10 (hdep 10 (by simp))
       subst d10
       clear hdep
       refine wpOp_step rfl (fun K' hK => ?_)
       go_simp
       have hg := Gr.al v (.cells #[.int .i64 (playAt hei pan top bot opn cl ch hei' pan' top' bot' opn' cl' ch' k).lo, .int .i64 (playAt hei pan top bot opn cl ch hei' pan' top' bot' opn' cl' ch' k).hi] 37)
       exact hK _ _ ⟨r, t36, t37, t38, t39, t40, t41, t42, t43, t44, t45, _, _, by rfl, gv.tr hg, f0.keep (by decide), f1.keep (by decide), f2.keep (by decide), f3.keep (by decide), f4.keep (by decide), f5.keep (by decide), f6.keep (by decide), f7.keep (by decide), f8.keep (by decide), (f9.keep (by decide)).map (fun h => h.up hg), f10.keep (by decide), Fact.lay (⟨_, rfl, by simp, Box.new v [.int .i64 (playAt hei pan top bot opn cl ch hei' pan' top' bot' opn' cl' ch' k).lo, .int .i64 (playAt hei pan top bot opn cl ch hei' pan' top' bot' opn' cl' ch' k).hi] 37 v.heap.size rfl⟩)⟩
     case fin9 =>
      rintro listed a v hls hall ⟨r, t36, t37, t38, t39, t40, t41, t42, t43, t44, t45, t46, t47, rfl, gv, f0, f1, f2, f3, f4, f5, f6, f7, f8, f9, f10, f11⟩
      have d0 := f0.now hall hls (by omega)
      obtain ⟨R1, rfl, hR1, bR⟩ := f11.now hall hls (by omega)
      subst d0
      clear f0 f1 f2 f3 f4 f5 f6 f7 f8 f9 f10 f11 hall hls bX1 bX1' bC1 bC1'
      show wpList _ _ _ (List.drop 12 _) _ _
      simp only [List.drop_succ_cons, List.drop_zero]
      go_wp2_with (at_builtin; refine wpList_append_own _ rfl _ _ 38 rfl U.heap.size 37 i0 (.agg #[.int .i64 0, .int .i64 0]) 2 16 Try.underlying38 hi hz0 hz1 hz2 rfl (by decide) _ _ _ rfl (owns_keep hown gv) ⟨R1, 0, none⟩ 1 1 ([(playAt hei pan top bot opn cl ch hei' pan' top' bot' opn' cl' ch' k).lo, (playAt hei pan top bot opn cl ch hei' pan' top' bot' opn' cl' ch' k).hi].map (fun n => Value.int .i64 n)) rfl rfl bR.news (ints_one _) hk1 hk2 (gV.tr gv).size ?_; intro v' w6 hown' hgrow' _)
      go_roundw
      case rel =>
       have hR : Gr U w6 := (gV.tr gv).grown' (owns_keep hown gv) (Nat.le_refl _) hgrow'
       have hl : w6.ownsRow U.heap.size 37 2 v' (k + 1) ((playL hei pan top bot opn cl ch hei' pan' top' bot' opn' cl' ch' (k + 1)).flatMap encS) := by
        unfold playL
        rw [List.range_succ, List.map_append, List.map_singleton, flat_snoc]
        exact hown'
       first
        | exact Lib.hid ⟨k + 1, _, by omega, by go_num, rfl, hR, hl⟩
        | exact Lib.hid ⟨k + 1, _, by omega, rfl, rfl, hR, hl⟩
      case measure => simp [intOf]; omega
    ·obtain rfl : k = 4 := by omega
     have hlen : (playL hei pan top bot opn cl ch hei' pan' top' bot' opn' cl' ch' 4).length = 4 := by simp [playL]
     obtain ⟨a, cap, hv, hr⟩ := owns_row (enc := encS) (l := playL hei pan top bot opn cl ch hei' pan' top' bot' opn' cl' ch' 4) (fun _ => rfl) (by rw [hlen]; omega) (by rw [hlen]; exact hown)
     subst hv
     have Hr := Lib.hid hr
     clear hr hlen
     go_wp2
     go_ret2
     exact ⟨a, cap, rfl, gg.tr gV, Hr.out⟩

end Go.Proofs.Ytpfnlldnddjbmaa

namespace Go.Proofs.Ytpfnlldnddjbmaa
set_option linter.unusedVariables false
set_option linter.unusedSimpArgs false
open Go.RowKit

def spP (s : Sp) : Int × Int := (s.lo, s.hi)

theorem sp_ext : ∀ {l m : List Sp}, l.map spP = m.map spP → l = m
  | [], [], _ => rfl
  | [], _ :: _, h => by cases h
  | _ :: _, [], h => by cases h
  | ⟨a, b⟩ :: l, ⟨c, d⟩ :: m, h => by
    simp only [List.map_cons, List.cons.injEq, spP, Prod.mk.injEq] at h
    obtain ⟨⟨rfl, rfl⟩, h2⟩ := h
    rw [sp_ext h2]

def exP : List Int := [304, 204, 304, 204]

def exQ : List Int := [318, 218, 318, 218]

def exF : List Int := [101, 101]

theorem exG : GoodB 35 208 6 exP exF exF false := good_of (by decide +kernel)

theorem exG2 : GoodB 35 208 6 exQ exF exF false := good_of (by decide +kernel)

theorem exWok : exW.ok := Wi.ok_of (by decide +kernel)

def inEx : List Sp := [⟨300000, 301000⟩, ⟨200000, 201000⟩, ⟨300000, 301000⟩, ⟨200000, 201000⟩, ⟨200000, 202000⟩, ⟨-2000, -1000⟩, ⟨98000, 99000⟩, ⟨-2000, -1000⟩, ⟨98000, 99000⟩]

theorem inEx_is : innerL 0 208 exP exF exF false 3000 4000 9 = inEx := sp_ext (by decide +kernel)

theorem ex_inner (a b c : Nat) (w : World) (h1 : IRow w (some ⟨a, 0, none⟩) exP) (h2 : IRow w (some ⟨b, 0, none⟩) exF) (h3 : IRow w (some ⟨c, 0, none⟩) exF) :
    Calls Try.prog 23 #[.agg #[.int .i64 35, .slice (some ⟨a, 0, none⟩) 4 4, .int .i64 208, .slice (some ⟨b, 0, none⟩) 2 2, .slice (some ⟨c, 0, none⟩) 2 2, .int .i64 6, .bool false], .agg #[.int .i64 3000, .int .i64 4000], .int .i64 0] w fun e w' => ∃ ad cap, e = .returned (.tuple #[.slice ad 9 cap, .int .i64 0]) ∧ Gr w w' ∧ SRow w' ad inEx := by
  have h := inner_ok 35 208 6 0 exP exF exF (some ⟨a, 0, none⟩) (some ⟨b, 0, none⟩) (some ⟨c, 0, none⟩) 4 2 2 false 3000 4000 exG (by decide) (by decide) w h1 h2 h3
  rw [inEx_is] at h
  exact h

def badEx : List (Int × Int) := [(0, 2500), (1, 2500), (2, 2500), (3, 2500), (4, 2500)]

theorem badEx_is : badL 2500 4500 (holdL 0 208 6 exP exF exF false 300 301 200 201 200 202 (-3) 0 0 200 false) 10 = badEx := by decide +kernel

theorem ex_close (a b c : Nat) (w : World) (h1 : IRow w (some ⟨a, 0, none⟩) exP) (h2 : IRow w (some ⟨b, 0, none⟩) exF) (h3 : IRow w (some ⟨c, 0, none⟩) exF) :
    Calls Try.prog 42 #[.agg #[.int .i64 35, .slice (some ⟨a, 0, none⟩) 4 4, .int .i64 208, .slice (some ⟨b, 0, none⟩) 2 2, .slice (some ⟨c, 0, none⟩) 2 2, .int .i64 6, .bool false], .agg #[.int .i64 300, .int .i64 301, .int .i64 200, .int .i64 201, .int .i64 200, .int .i64 202, .int .i64 (-3), .int .i64 0, .int .i64 0, .int .i64 200, .bool false], .agg #[.int .i64 2500, .int .i64 4500]] w fun e w' => ∃ ad cap, e = .returned (.tuple #[.slice ad 5 cap, .int .i64 0]) ∧ Gr w w' ∧ BRow w' ad badEx := by
  have h := close_ok 35 208 6 exP exF exF (some ⟨a, 0, none⟩) (some ⟨b, 0, none⟩) (some ⟨c, 0, none⟩) 4 2 2 false 300 301 200 201 200 202 (-3) 0 0 200 false 2500 4500 exG exWok (by decide) w h1 h2 h3
  rw [badEx_is] at h
  exact h

theorem ex_cal (a b c : Nat) (w : World) (h1 : IRow w (some ⟨a, 0, none⟩) exP) (h2 : IRow w (some ⟨b, 0, none⟩) exF) (h3 : IRow w (some ⟨c, 0, none⟩) exF) :
    Calls Try.prog 43 #[.agg #[.int .i64 35, .slice (some ⟨a, 0, none⟩) 4 4, .int .i64 208, .slice (some ⟨b, 0, none⟩) 2 2, .slice (some ⟨c, 0, none⟩) 2 2, .int .i64 6, .bool false], .agg #[.int .i64 300, .int .i64 301, .int .i64 200, .int .i64 201, .int .i64 200, .int .i64 202, .int .i64 (-3), .int .i64 0, .int .i64 0, .int .i64 200, .bool false]] w fun e w' => e = .returned (.tuple #[.agg #[.int .i64 3000, .int .i64 4000], .int .i64 0]) ∧ Gr w w' := by
  have h := calipers_any 35 208 6 exP exF exF (some ⟨a, 0, none⟩) (some ⟨b, 0, none⟩) (some ⟨c, 0, none⟩) 4 2 2 false exW w h1 h2 h3
  refine h.mono ?_
  rintro e w' ⟨hg, (⟨h0, _⟩ | ⟨_, h0, _⟩ | ⟨_, _, h0⟩)⟩
  · exact absurd (show firstE [checkE 35 208 6 exP exF exF false, exW.err] = 0 by decide +kernel) h0
  · exact absurd h0 (by decide +kernel)
  · have e1 : (calTo (holdL 0 208 6 exP exF exF false exW.ll exW.lh exW.wl exW.wh exW.hl exW.hh exW.ol exW.oh exW.il exW.ih exW.wo) 10).lo = 3000 := by decide +kernel
    have e2 : (calTo (holdL 0 208 6 exP exF exF false exW.ll exW.lh exW.wl exW.wh exW.hl exW.hh exW.ol exW.oh exW.il exW.ih exW.wo) 10).hi = 4000 := by decide +kernel
    rw [e1, e2] at h0
    exact ⟨h0, hg⟩

theorem smEx2 : (smallD (wholeR false) exW 3000 4000).2 = 10 := by decide +kernel

theorem smExp : (smallD (wholeR false) exW 3000 4000).1.p = [304, 204, 304, 204] := by decide +kernel

theorem smExt : (smallD (wholeR false) exW 3000 4000).1.t = [101, 51] := by decide +kernel

theorem smExb : (smallD (wholeR false) exW 3000 4000).1.b = [101, 51] := by decide +kernel

theorem smExh : (smallD (wholeR false) exW 3000 4000).1.hei = 208 := by decide +kernel

theorem smExs : (smallD (wholeR false) exW 3000 4000).1.slo = 4 := by decide +kernel

theorem ex_blank (w : World) :
    Calls Try.prog 29 #[.agg #[.int .i64 300, .int .i64 301, .int .i64 200, .int .i64 201, .int .i64 200, .int .i64 202, .int .i64 (-3), .int .i64 0, .int .i64 0, .int .i64 200, .bool false], .agg #[.int .i64 3000, .int .i64 4000], .int .i64 35] w fun e w' => ∃ P T B, e = .returned (.tuple #[.agg #[.int .i64 35, .slice (some ⟨P, 0, none⟩) 4 4, .int .i64 208, .slice (some ⟨T, 0, none⟩) 2 2, .slice (some ⟨B, 0, none⟩) 2 2, .int .i64 4, .bool false], .int .i64 0, .int .i64 0]) ∧ Gr w w' ∧
      IRow w' (some ⟨P, 0, none⟩) [304, 204, 304, 204] ∧ IRow w' (some ⟨T, 0, none⟩) [101, 51] ∧ IRow w' (some ⟨B, 0, none⟩) [101, 51] := by
  have hE : firstE [exW.err, measE [⟨3000, 4000⟩]] = 0 := by decide +kernel
  refine (blankF_any exW 3000 4000 35 w).mono ?_
  rintro e w' ⟨hg, (⟨h0, _⟩ | ⟨_, h0, _⟩ | ⟨_, _, h0, _⟩ | ⟨_, _, _, P, T, B, h0, h1, h2, h3⟩)⟩
  · exact absurd hE h0
  · exact absurd h0 (by decide)
  · exact absurd h0 (by show ¬ (smallD (wholeR false) exW 3000 4000).2 < 10; rw [smEx2]; decide)
  · change e = .returned (.tuple #[.agg #[.int .i64 35, .slice (some ⟨P, 0, none⟩) 4 4, .int .i64 (smallD (wholeR false) exW 3000 4000).1.hei, .slice (some ⟨T, 0, none⟩) 2 2, .slice (some ⟨B, 0, none⟩) 2 2, .int .i64 (smallD (wholeR false) exW 3000 4000).1.slo, .bool false], .int .i64 0, .int .i64 0]) at h0
    change IRow w' _ (smallD (wholeR false) exW 3000 4000).1.p at h1
    change IRow w' _ (smallD (wholeR false) exW 3000 4000).1.t at h2
    change IRow w' _ (smallD (wholeR false) exW 3000 4000).1.b at h3
    rw [smExh, smExs] at h0
    rw [smExp] at h1
    rw [smExt] at h2
    rw [smExb] at h3
    exact ⟨P, T, B, h0, hg, h1, h2, h3⟩

theorem ex_size (a b c : Nat) (w : World) (h1 : IRow w (some ⟨a, 0, none⟩) exP) (h2 : IRow w (some ⟨b, 0, none⟩) exF) (h3 : IRow w (some ⟨c, 0, none⟩) exF) :
    Calls Try.prog 18 #[.agg #[.int .i64 35, .slice (some ⟨a, 0, none⟩) 4 4, .int .i64 208, .slice (some ⟨b, 0, none⟩) 2 2, .slice (some ⟨c, 0, none⟩) 2 2, .int .i64 6, .bool false]] w fun e w' => e = .returned (.tuple #[.int .i64 1051, .int .i64 410, .int .i64 430910, .int .i64 0]) ∧ Gr w w' := by
  have h := size_ok 35 208 6 exP exF exF (some ⟨a, 0, none⟩) (some ⟨b, 0, none⟩) (some ⟨c, 0, none⟩) 4 2 2 false exG w h1 h2 h3
  have e1 : acrossL 35 exP = 1051 := by decide +kernel
  have e2 : alongL 208 exF exF = 410 := by decide +kernel
  rw [e1, e2] at h
  exact h

theorem ex_scores (a b c : Nat) (w : World) (h1 : IRow w (some ⟨a, 0, none⟩) exP) (h2 : IRow w (some ⟨b, 0, none⟩) exF) (h3 : IRow w (some ⟨c, 0, none⟩) exF) :
    Calls Try.prog 19 #[.agg #[.int .i64 35, .slice (some ⟨a, 0, none⟩) 4 4, .int .i64 208, .slice (some ⟨b, 0, none⟩) 2 2, .slice (some ⟨c, 0, none⟩) 2 2, .int .i64 6, .bool false]] w fun e w' => ∃ p cp q cq, e = .returned (.tuple #[.slice p 4 cp, .slice q 2 cq, .int .i64 0]) ∧ Gr w w' ∧ IRow w' p [35, 339, 543, 847] ∧ IRow w' q [101, 309] := by
  have h := scores_any 35 208 6 exP exF exF (some ⟨a, 0, none⟩) (some ⟨b, 0, none⟩) (some ⟨c, 0, none⟩) 4 2 2 false w h1 h2 h3
  have e1 : placesTo 35 exP 4 = [35, 339, 543, 847] := by decide +kernel
  have e2 : [maxL exF, maxL exF + 208] = [101, 309] := by decide +kernel
  rw [e1, e2] at h
  refine h.mono ?_
  rintro e w' ⟨hg, (⟨h0, _⟩ | ⟨_, p, cp, q, cq, h0, h1, h2⟩)⟩
  · exact absurd (show checkE 35 208 6 exP exF exF false = 0 by decide +kernel) h0
  · exact ⟨p, cp, q, cq, h0, hg, h1, h2⟩

def playEx : List Sp := [⟨6000, 8000⟩, ⟨6000, 8000⟩, ⟨6000, 8000⟩, ⟨6000, 8000⟩]

theorem playEx_is : playL 208 exQ exF exF false 3000 4000 208 exP exF exF false 3000 4000 4 = playEx := sp_ext (by decide +kernel)

theorem ex_play (a b c a' b' c' : Nat) (w : World) (h1 : IRow w (some ⟨a, 0, none⟩) exQ) (h2 : IRow w (some ⟨b, 0, none⟩) exF) (h3 : IRow w (some ⟨c, 0, none⟩) exF) (h1' : IRow w (some ⟨a', 0, none⟩) exP) (h2' : IRow w (some ⟨b', 0, none⟩) exF) (h3' : IRow w (some ⟨c', 0, none⟩) exF) :
    Calls Try.prog 32 #[.agg #[.int .i64 35, .slice (some ⟨a, 0, none⟩) 4 4, .int .i64 208, .slice (some ⟨b, 0, none⟩) 2 2, .slice (some ⟨c, 0, none⟩) 2 2, .int .i64 6, .bool false], .agg #[.int .i64 35, .slice (some ⟨a', 0, none⟩) 4 4, .int .i64 208, .slice (some ⟨b', 0, none⟩) 2 2, .slice (some ⟨c', 0, none⟩) 2 2, .int .i64 6, .bool false], .agg #[.int .i64 3000, .int .i64 4000], .agg #[.int .i64 3000, .int .i64 4000]] w fun e w' => ∃ ad cap, e = .returned (.tuple #[.slice ad 4 cap, .int .i64 0]) ∧ Gr w w' ∧ SRow w' ad playEx := by
  have h := play_ok 35 208 6 exQ exF exF (some ⟨a, 0, none⟩) (some ⟨b, 0, none⟩) (some ⟨c, 0, none⟩) 4 2 2 false 35 208 6 exP exF exF (some ⟨a', 0, none⟩) (some ⟨b', 0, none⟩) (some ⟨c', 0, none⟩) 4 2 2 false 3000 4000 3000 4000 exG2 exG (by decide) (by decide) w h1 h2 h3 h1' h2' h3'
  rw [playEx_is] at h
  exact h

theorem sort3_ex : sortL [200, 300, 201] = [200, 201, 300] := by simp [sortL, List.mergeSort, List.MergeSort.Internal.splitInTwo]

theorem sort3_hi : sortL [300000, 200000, 200000] = [200000, 200000, 300000] := by simp [sortL, List.mergeSort, List.MergeSort.Internal.splitInTwo]

theorem sort3_lo : sortL [301000, 201000, 202000] = [201000, 202000, 301000] := by simp [sortL, List.mergeSort, List.MergeSort.Internal.splitInTwo]

theorem box02_hi : fitsBox 0 208 exP exF exF false 4000 = [300000, 200000, 200000] := by decide +kernel

theorem box02_lo : fitsBox 0 208 exP exF exF false 3000 = [301000, 201000, 202000] := by decide +kernel

theorem ex_holds (a b c : Nat) (td : Option Addr) (tc : Nat) (w : World) (h1 : IRow w (some ⟨a, 0, none⟩) exP) (h2 : IRow w (some ⟨b, 0, none⟩) exF) (h3 : IRow w (some ⟨c, 0, none⟩) exF) (h4 : IRow w td [200, 300, 201]) :
    Calls Try.prog 35 #[.agg #[.int .i64 35, .slice (some ⟨a, 0, none⟩) 4 4, .int .i64 208, .slice (some ⟨b, 0, none⟩) 2 2, .slice (some ⟨c, 0, none⟩) 2 2, .int .i64 6, .bool false], .agg #[.int .i64 3000, .int .i64 4000], .slice td 3 tc] w fun e w' => e = .returned (.tuple #[.bool false, .bool true, .int .i64 0]) ∧ Gr w w' := by
  have h := holds_ok 35 208 6 exP exF exF (some ⟨a, 0, none⟩) (some ⟨b, 0, none⟩) (some ⟨c, 0, none⟩) 4 2 2 false 3000 4000 [200, 300, 201] exG (by decide) rfl (by decide) td tc w h1 h2 h3 h4
  have e1 : fitsL [200, 300, 201] (fitsBox 0 208 exP exF exF false 4000) = false := by rw [box02_hi]; unfold fitsL; rw [sort3_ex, sort3_hi]; decide
  have e2 : fitsL [200, 300, 201] (fitsBox 0 208 exP exF exF false 3000) = true := by rw [box02_lo]; unfold fitsL; rw [sort3_ex, sort3_lo]; decide
  rw [e1, e2] at h
  exact h

def exR : Rm := ⟨0, 208, 6, exP, exF, exF, false⟩

theorem may2500 : mayB exR exW 2500 = false := by decide +kernel

theorem may3000 : mayB exR exW 3000 = true := by decide +kernel

theorem mayE : firstE [checkE 35 exR.hei exR.slo exR.pan exR.top exR.bot exR.opn, exW.err, measE [⟨2500, 4500⟩], if inB 0 5 [exR.off] = true then 0 else 7] = 0 := by decide +kernel

theorem ex_may (a b c : Nat) (w : World) (h1 : IRow w (some ⟨a, 0, none⟩) exP) (h2 : IRow w (some ⟨b, 0, none⟩) exF) (h3 : IRow w (some ⟨c, 0, none⟩) exF) :
    Calls Try.prog 48 #[.agg #[.int .i64 35, .slice (some ⟨a, 0, none⟩) 4 4, .int .i64 208, .slice (some ⟨b, 0, none⟩) 2 2, .slice (some ⟨c, 0, none⟩) 2 2, .int .i64 6, .bool false], .agg #[.int .i64 300, .int .i64 301, .int .i64 200, .int .i64 201, .int .i64 200, .int .i64 202, .int .i64 (-3), .int .i64 0, .int .i64 0, .int .i64 200, .bool false], .agg #[.int .i64 2500, .int .i64 4500], .int .i64 0] w fun e w' => e = .returned (.tuple #[.int .i64 3000, .int .i64 0]) ∧ Gr w w' := by
  have h := may_any exR exW 2500 4500 35 (some ⟨a, 0, none⟩) (some ⟨b, 0, none⟩) (some ⟨c, 0, none⟩) 4 2 2 w h1 h2 h3
  refine h.mono ?_
  have s0 : startAt 2500 0 = 2500 := rfl
  have s1 : startAt 2500 1 = 3000 := by decide
  intro e w' hq
  unfold MayPost at hq
  obtain ⟨hg, hq⟩ := hq
  rcases hq with hq | hq | hq
  · exact absurd mayE hq.1
  · obtain ⟨k, h1, h2, h3, h4⟩ := hq.2
    clear hq
    obtain _ | _ | k := k
    · rw [s0, may2500] at h3
      cases h3
    · have s1' : startAt 2500 (0 + 1) = 3000 := s1
      rw [s1'] at h4
      exact ⟨h4, hg⟩
    · have := h2 1 (by omega)
      rw [s1, may3000] at this
      cases this
  · obtain ⟨k, h1, h2⟩ := hq.2.1
    clear hq
    obtain _ | _ | k := k
    · rw [s0] at h1
      omega
    · have s1' : startAt 2500 (0 + 1) = 3000 := s1
      rw [s1'] at h1
      omega
    · have := h2 1 (by omega)
      rw [s1, may3000] at this
      cases this

end Go.Proofs.Ytpfnlldnddjbmaa

namespace Go.Proofs.Ytpfnlldnddjbmaa
set_option linter.unusedVariables false
set_option linter.unusedSimpArgs false
open Go.RowKit

theorem ex_same (P T B P2 T2 B2 : Option Addr) (w : World) (h1 : IRow w P [304, 204, 304, 204]) (h2 : IRow w T [101, 51]) (h3 : IRow w B [101, 51]) (k1 : IRow w P2 [304, 204, 304, 204]) (k2 : IRow w T2 [101, 51]) (k3 : IRow w B2 [101, 51]) :
    Calls Try.prog 20 #[.agg #[.int .i64 35, .slice P 4 4, .int .i64 208, .slice T 2 2, .slice B 2 2, .int .i64 4, .bool false], .agg #[.int .i64 35, .slice P2 4 4, .int .i64 208, .slice T2 2 2, .slice B2 2 2, .int .i64 4, .bool false]] w fun e w' => e = .returned (.bool true) ∧ Gr w w' := by
  have h := same02_any ⟨35, [304, 204, 304, 204], 208, [101, 51], [101, 51], 4, false⟩ ⟨35, [304, 204, 304, 204], 208, [101, 51], [101, 51], 4, false⟩ P T B P2 T2 B2 4 2 2 4 2 2 w ⟨h1, h2, h3⟩ ⟨k1, k2, k3⟩
  rw [(sameB_iff _ _).2 rfl] at h
  exact h

theorem ex_ints4 (a b : Option Addr) (c : Nat) (w : World) (h1 : IRow w a [35, 339, 543, 847]) (h2 : IRow w b [35, 339, 543, 847]) :
    Calls Try.prog 22 #[.slice a 4 c, .slice b 4 4] w fun e w' => e = .returned (.bool true) ∧ Gr w w' := by
  have h := ints02_any [35, 339, 543, 847] [35, 339, 543, 847] a b c 4 w h1 h2
  rw [decide_eq_true rfl] at h
  exact h

theorem ex_ints2 (a b : Option Addr) (c : Nat) (w : World) (h1 : IRow w a [101, 309]) (h2 : IRow w b [101, 309]) :
    Calls Try.prog 22 #[.slice a 2 c, .slice b 2 2] w fun e w' => e = .returned (.bool true) ∧ Gr w w' := by
  have h := ints02_any [101, 309] [101, 309] a b c 2 w h1 h2
  rw [decide_eq_true rfl] at h
  exact h

set_option maxRecDepth 100000 in
set_option maxHeartbeats 8000000 in
theorem known_any (w : World) : Calls Try.prog 15 #[] w fun e w' => e = .returned (.bool true) ∧ Gr w w' := by
  have gX : Gr w w := Below.refl _ _
  go_enter Try.func15, Try.ntmps15
  go_upto_region 2 with (first
    | (go_at_call 60; refine (box02_any 304 204 _).mono ?_; rintro e u0 ⟨a0, b0, c0, rfl, p0, q0, s0, h0⟩)
    | (go_at_call 26; refine (span02_any 3000 4000 _).mono ?_; rintro e u1 ⟨rfl, h1⟩)
    | (go_at_call 23; refine (ex_inner _ _ _ _ (p0.grow h1) (q0.grow h1) (s0.grow h1)).mono ?_; rintro e w1 ⟨i1, k1, rfl, h2, r1⟩))
  have g := h0.tr (h1.tr h2)
  replace gX := gX.tr g
  clear g h0 h1 h2 p0 q0 s0
  obtain ⟨A1, O1, rfl, _⟩ := r1.addr (by decide)
  go_upto_region 3 with (first
    | (go_at_call 60; refine (box02_any 304 204 _).mono ?_; rintro e u0 ⟨a0, b0, c0, rfl, p0, q0, s0, h0⟩)
    | (go_at_call 61; refine (wish02_any _).mono ?_; rintro e u1 ⟨rfl, h1⟩)
    | (go_at_call 26; refine (span02_any 2500 4500 _).mono ?_; rintro e u2 ⟨rfl, h2⟩)
    | (go_at_call 42; refine (ex_close _ _ _ _ (p0.grow (h1.tr h2)) (q0.grow (h1.tr h2)) (s0.grow (h1.tr h2))).mono ?_; rintro e w2 ⟨i3, k3, rfl, h3, r3⟩))
  have g := h0.tr (h1.tr (h2.tr h3))
  replace gX := gX.tr g
  replace r1 := r1.grow g
  clear g h0 h1 h2 h3 p0 q0 s0
  obtain ⟨A3, O3, rfl, _⟩ := r3.addr (by decide)
  go_upto_region 4 with (first
    | (go_at_call 60; refine (box02_any 304 204 _).mono ?_; rintro e u0 ⟨a0, b0, c0, rfl, p0, q0, s0, h0⟩)
    | (go_at_call 61; refine (wish02_any _).mono ?_; rintro e u1 ⟨rfl, h1⟩)
    | (go_at_call 43; refine (ex_cal _ _ _ _ (p0.grow h1) (q0.grow h1) (s0.grow h1)).mono ?_; rintro e u2 ⟨rfl, h2⟩))
  obtain ⟨B5, hB5⟩ : ∃ B5, B5 = u2.heap.size := ⟨_, rfl⟩
  have b5 := Box.new u2 [.int .i64 3000, .int .i64 4000] 37 B5 hB5
  have g := (h0.tr (h1.tr h2)).tr (Gr.al u2 (.cells #[.int .i64 3000, .int .i64 4000] 37))
  replace gX := gX.tr g
  replace r1 := r1.grow g
  replace r3 := r3.grow g
  rw [← hB5]
  refine wp_abs (fun X => Gr w X ∧ SRow X (some ⟨A1, O1, none⟩) inEx ∧ BRow X (some ⟨A3, O3, none⟩) badEx ∧ Box X B5 [.int .i64 3000, .int .i64 4000]) ⟨gX, r1, r3, b5⟩ ?_
  clear gX r1 r3 b5 g h0 h1 h2 p0 q0 s0 hB5
  rintro w3 ⟨gX, r1, r3, b5⟩
  go_upto_region 5 with (first
    | (go_at_call 61; refine (wish02_any _).mono ?_; rintro e u0 ⟨rfl, h0⟩)
    | (go_at_call 26; refine (span02_any 3000 4000 _).mono ?_; rintro e u1 ⟨rfl, h1⟩)
    | (go_at_call 29; refine (ex_blank _).mono ?_; rintro e u2 ⟨P7, T7, C7, rfl, h2, e7, f7, d7⟩))
  obtain ⟨B7, hB7⟩ : ∃ B7, B7 = u2.heap.size := ⟨_, rfl⟩
  have b7 := Box.new u2 [.int .i64 35, .slice (some ⟨P7, 0, none⟩) 4 4, .int .i64 208, .slice (some ⟨T7, 0, none⟩) 2 2, .slice (some ⟨C7, 0, none⟩) 2 2, .int .i64 4, .bool false] 24 B7 hB7
  have gq := Gr.al u2 (.cells #[.int .i64 35, .slice (some ⟨P7, 0, none⟩) 4 4, .int .i64 208, .slice (some ⟨T7, 0, none⟩) 2 2, .slice (some ⟨C7, 0, none⟩) 2 2, .int .i64 4, .bool false] 24)
  replace e7 := e7.grow gq
  replace f7 := f7.grow gq
  replace d7 := d7.grow gq
  have g := (h0.tr (h1.tr h2)).tr gq
  replace gX := gX.tr g
  replace r1 := r1.grow g
  replace r3 := r3.grow g
  replace b5 := b5.keep g
  rw [← hB7]
  refine wp_abs (fun X => Gr w X ∧ SRow X (some ⟨A1, O1, none⟩) inEx ∧ BRow X (some ⟨A3, O3, none⟩) badEx ∧ Box X B5 [.int .i64 3000, .int .i64 4000] ∧ Box X B7 [.int .i64 35, .slice (some ⟨P7, 0, none⟩) 4 4, .int .i64 208, .slice (some ⟨T7, 0, none⟩) 2 2, .slice (some ⟨C7, 0, none⟩) 2 2, .int .i64 4, .bool false] ∧ IRow X (some ⟨P7, 0, none⟩) [304, 204, 304, 204] ∧ IRow X (some ⟨T7, 0, none⟩) [101, 51] ∧ IRow X (some ⟨C7, 0, none⟩) [101, 51]) ⟨gX, r1, r3, b5, b7, e7, f7, d7⟩ ?_
  clear gX r1 r3 b5 b7 e7 f7 d7 g gq h0 h1 h2 hB7
  rintro w4 ⟨gX, r1, r3, b5, b7, e7, f7, d7⟩
  go_upto_region 6 with (first
    | (go_at_call 60; refine (box02_any 304 204 _).mono ?_; rintro e u0 ⟨a0, b0, c0, rfl, p0, q0, s0, h0⟩)
    | (go_at_call 18; refine (ex_size _ _ _ _ p0 q0 s0).mono ?_; rintro e w5 ⟨rfl, h1⟩))
  have g := h0.tr h1
  replace gX := gX.tr g
  replace r1 := r1.grow g
  replace r3 := r3.grow g
  replace b5 := b5.keep g
  replace b7 := b7.keep g
  replace e7 := e7.grow g
  replace f7 := f7.grow g
  replace d7 := d7.grow g
  clear g h0 h1 p0 q0 s0
  go_upto_region 7 with (first
    | (go_at_call 60; refine (box02_any 304 204 _).mono ?_; rintro e u0 ⟨a0, b0, c0, rfl, p0, q0, s0, h0⟩)
    | (go_at_call 19; refine (ex_scores _ _ _ _ p0 q0 s0).mono ?_; rintro e w6 ⟨i14, k14, i15, k15, rfl, h1, r14, r15⟩))
  have g := h0.tr h1
  replace gX := gX.tr g
  replace r1 := r1.grow g
  replace r3 := r3.grow g
  replace b5 := b5.keep g
  replace b7 := b7.keep g
  replace e7 := e7.grow g
  replace f7 := f7.grow g
  replace d7 := d7.grow g
  clear g h0 h1 p0 q0 s0
  obtain ⟨A14, O14, rfl, _⟩ := r14.addr (by decide)
  obtain ⟨A15, O15, rfl, _⟩ := r15.addr (by decide)
  have tok0 : True := trivial
  have tok2 : True := trivial
  go_upto_region 8 with (first
    | (have _t := tok0; clear tok0 _t; go_at_call 60; refine (box02_any 318 218 _).mono ?_; rintro e u0 ⟨a0, b0, c0, rfl, p0, q0, s0, h0⟩)
    | (go_at_call 60; refine (box02_any 304 204 _).mono ?_; rintro e u1 ⟨a1, b1, c1, rfl, p1, q1, s1, h1⟩)
    | (have _t := tok2; clear tok2 _t; go_at_call 26; refine (span02_any 3000 4000 _).mono ?_; rintro e u2 ⟨rfl, h2⟩)
    | (go_at_call 26; refine (span02_any 3000 4000 _).mono ?_; rintro e u3 ⟨rfl, h3⟩)
    | (go_at_call 32; refine (ex_play _ _ _ _ _ _ _ (p0.grow (h1.tr (h2.tr h3))) (q0.grow (h1.tr (h2.tr h3))) (s0.grow (h1.tr (h2.tr h3))) (p1.grow (h2.tr h3)) (q1.grow (h2.tr h3)) (s1.grow (h2.tr h3))).mono ?_; rintro e w7 ⟨i17, k17, rfl, h4, r17⟩))
  have g := h0.tr (h1.tr (h2.tr (h3.tr h4)))
  replace gX := gX.tr g
  replace r1 := r1.grow g
  replace r3 := r3.grow g
  replace b5 := b5.keep g
  replace b7 := b7.keep g
  replace e7 := e7.grow g
  replace f7 := f7.grow g
  replace d7 := d7.grow g
  replace r14 := r14.grow g
  replace r15 := r15.grow g
  clear g h0 h1 h2 h3 h4 p0 q0 s0 p1 q1 s1
  obtain ⟨A17, O17, rfl, _⟩ := r17.addr (by decide)
  go_upto_region 9 with (first
    | (go_at_call 60; refine (box02_any 304 204 _).mono ?_; rintro e u0 ⟨a0, b0, c0, rfl, p0, q0, s0, h0⟩)
    | (go_at_call 26; refine (span02_any 3000 4000 _).mono ?_; rintro e u1 ⟨rfl, h1⟩)
    | (go_at_call 35; refine (ex_holds _ _ _ _ _ _ (p0.grow (h1.tr (Gr.al u1 (.cells #[.int .i64 200, .int .i64 300, .int .i64 201] 3)))) (q0.grow (h1.tr (Gr.al u1 (.cells #[.int .i64 200, .int .i64 300, .int .i64 201] 3)))) (s0.grow (h1.tr (Gr.al u1 (.cells #[.int .i64 200, .int .i64 300, .int .i64 201] 3)))) (IRow.new' u1 3 [200, 300, 201] (by decide) _ rfl _ (by rfl))).mono ?_; rintro e w8 ⟨rfl, h2⟩))
  have g := h0.tr (h1.tr ((Gr.al u1 (.cells #[.int .i64 200, .int .i64 300, .int .i64 201] 3)).tr h2))
  replace gX := gX.tr g
  replace r1 := r1.grow g
  replace r3 := r3.grow g
  replace b5 := b5.keep g
  replace b7 := b7.keep g
  replace e7 := e7.grow g
  replace f7 := f7.grow g
  replace d7 := d7.grow g
  replace r14 := r14.grow g
  replace r15 := r15.grow g
  replace r17 := r17.grow g
  clear g h0 h1 h2 p0 q0 s0
  go_upto_region 10 with (first
    | (go_at_call 60; refine (box02_any 304 204 _).mono ?_; rintro e u0 ⟨a0, b0, c0, rfl, p0, q0, s0, h0⟩)
    | (go_at_call 61; refine (wish02_any _).mono ?_; rintro e u1 ⟨rfl, h1⟩)
    | (go_at_call 26; refine (span02_any 2500 4500 _).mono ?_; rintro e u2 ⟨rfl, h2⟩)
    | (go_at_call 48; refine (ex_may _ _ _ _ (p0.grow (h1.tr h2)) (q0.grow (h1.tr h2)) (s0.grow (h1.tr h2))).mono ?_; rintro e w9 ⟨rfl, h3⟩))
  have g := h0.tr (h1.tr (h2.tr h3))
  replace gX := gX.tr g
  replace r1 := r1.grow g
  replace r3 := r3.grow g
  replace b5 := b5.keep g
  replace b7 := b7.keep g
  replace e7 := e7.grow g
  replace f7 := f7.grow g
  replace d7 := d7.grow g
  replace r14 := r14.grow g
  replace r15 := r15.grow g
  replace r17 := r17.grow g
  clear g h0 h1 h2 h3 p0 q0 s0
  go_upto_region 12 with fail
  refine (show (∀ n : Nat → Value, Code.wp Try.prog _ _ ⟨#[.bool false, .slice (some ⟨A1, O1, none⟩) 9 k1, .int .i64 0, .slice (some ⟨A3, O3, none⟩) 5 k3, .int .i64 0, .pointer (some ⟨B5, 0, none⟩), .int .i64 0, .pointer (some ⟨B7, 0, none⟩), .int .i64 0, .int .i64 0, .int .i64 1051, .int .i64 410, .int .i64 430910, .int .i64 0, .slice (some ⟨A14, O14, none⟩) 4 k14, .slice (some ⟨A15, O15, none⟩) 2 k15, .int .i64 0, .slice (some ⟨A17, O17, none⟩) 4 k17, .int .i64 0, .bool false, .bool true, .int .i64 0, .int .i64 3000, .int .i64 0, undef, n 25, n 26, n 27, n 28, n 29, n 30, n 31, n 32, n 33, n 34, n 35, n 36, n 37, n 38, n 39, n 40, n 41, n 42, n 43, n 44, n 45, n 46, n 47, n 48, n 49, n 50, n 51, n 52, n 53, n 54, n 55, n 56, n 57, n 58, n 59, n 60, n 61, n 62, n 63, n 64, n 65, n 66, n 67, n 68, n 69, n 70, n 71, n 72, n 73, n 74, n 75, n 76, n 77, n 78, n 79, n 80, n 81, n 82, n 83, n 84, n 85, n 86, n 87, n 88, n 89, n 90, n 91, n 92, n 93, n 94, n 95, n 96, n 97, n 98, n 99, n 100, n 101, n 102, n 103, n 104, n 105, n 106, n 107, n 108, n 109, n 110, n 111, n 112, n 113, n 114, n 115, n 116, n 117, n 118, n 119, n 120, n 121, n 122, n 123, n 124, n 125, n 126, n 127, n 128, n 129, n 130, n 131, n 132, n 133, n 134, n 135, undef, undef, undef, undef, undef, undef, undef, undef, undef, undef, undef, undef, undef, undef, undef, undef, undef, undef, undef, undef, undef, undef, undef, undef, undef, undef, undef, undef, undef, undef, undef, undef, undef, undef, undef, undef, undef, undef, undef, undef, undef, undef, undef, undef, undef, undef, undef, undef, undef, undef, undef, undef, undef, undef, undef, undef, undef, undef, undef, undef, undef, undef, undef, undef, undef, undef, undef, undef, undef, undef, undef, undef, undef, undef, undef, undef, undef, undef], []⟩ _) → _ from fun h => h ((fun l : List Value => fun i => l.getD i undef) [undef, undef, undef, undef, undef, undef, undef, undef, undef, undef, undef, undef, undef, undef, undef, undef, undef, undef, undef, undef, undef, undef, undef, undef, undef, _, _, _, _, _, _, _, _, _, _, _, _, _, _, _, _, _, _, _, _, _, _, _, _, _, _, _, _, _, _, _, _, _, _, _, _, _, _, _, _, _, _, _, _, _, _, _, _, _, _, _, _, _, _, _, _, _, _, _, _, _, _, _, _, _, _, _, _, _, _, _, _, _, _, _, _, _, _, _, _, _, _, _, _, _, _, _, _, _, _, _, _, _, _, _, _, _, _, _, _, _, _, _, _, _, _, _, _, _, _, _])) ?_
  intro n
  dsimp only
  obtain ⟨_, _, he0, _, e10, e11⟩ := SRow.get r1 (j := 0) (x := ⟨300000, 301000⟩) rfl
  obtain ⟨_, _, he4, _, e14, e15⟩ := SRow.get r1 (j := 4) (x := ⟨200000, 202000⟩) rfl
  obtain ⟨_, _, he5, _, e16, e17⟩ := SRow.get r1 (j := 5) (x := ⟨-2000, -1000⟩) rfl
  obtain ⟨_, _, he3, _, hc3⟩ := r3.2 4 (4, 2500) rfl
  cases he0
  cases he4
  cases he5
  cases he3
  have e34 := hc3 0 _ rfl
  have e35 := hc3 1 _ rfl
  obtain ⟨e50, e51⟩ := b5.c2
  clear hc3
  simp only [Nat.zero_mul, Nat.add_zero, Nat.reduceMul] at e10 e11 e14 e15 e16 e17 e34 e35
  have gv := Gr.dr w9
  have x0 := gv.keep e10
  have x1 := gv.keep e11
  have x2 := gv.keep e14
  have x3 := gv.keep e15
  have x4 := gv.keep e16
  have x5 := gv.keep e17
  have x6 := gv.keep e34
  have x7 := gv.keep e35
  have x8 := gv.keep e50
  have x9 := gv.keep e51
  have tk0 : True := trivial
  have tk1 : True := trivial
  have tk2 : True := trivial
  go_region_held3 (fun w' => w'.cell? ⟨A1, O1, none⟩ = some (.int .i64 300000) ∧ w'.cell? ⟨A1, O1 + 1, none⟩ = some (.int .i64 301000) ∧ w'.cell? ⟨A1, O1 + 8, none⟩ = some (.int .i64 200000) ∧ w'.cell? ⟨A1, O1 + 8 + 1, none⟩ = some (.int .i64 202000) ∧ w'.cell? ⟨A1, O1 + 10, none⟩ = some (.int .i64 (-2000)) ∧ w'.cell? ⟨A1, O1 + 10 + 1, none⟩ = some (.int .i64 (-1000)) ∧ w'.cell? ⟨A3, O3 + 8, none⟩ = some (.int .i64 4) ∧ w'.cell? ⟨A3, O3 + 8 + 1, none⟩ = some (.int .i64 2500) ∧ w'.cell? ⟨B5, 0, none⟩ = some (.int .i64 3000) ∧ w'.cell? ⟨B5, 1, none⟩ = some (.int .i64 4000)) (first | exact ⟨x0, x1, x2, x3, x4, x5, x6, x7, x8, x9⟩ | go_keep) (first
    | (have _t := tk0; clear tk0 _t; go_at_call 26; (refine (span02_any 300000 301000 _).mono ?_); rintro e wq ⟨rfl, hy⟩; replace gv := gv.tr hy; (have x0 := gv.keep e10; have x1 := gv.keep e11; have x2 := gv.keep e14; have x3 := gv.keep e15; have x4 := gv.keep e16; have x5 := gv.keep e17; have x6 := gv.keep e34; have x7 := gv.keep e35; have x8 := gv.keep e50; have x9 := gv.keep e51))
    | (have _t := tk1; clear tk1 _t; go_at_call 26; (refine (span02_any 200000 202000 _).mono ?_); rintro e wq ⟨rfl, hy⟩; replace gv := gv.tr hy; (have x0 := gv.keep e10; have x1 := gv.keep e11; have x2 := gv.keep e14; have x3 := gv.keep e15; have x4 := gv.keep e16; have x5 := gv.keep e17; have x6 := gv.keep e34; have x7 := gv.keep e35; have x8 := gv.keep e50; have x9 := gv.keep e51))
    | (have _t := tk2; clear tk2 _t; go_at_call 26; (refine (span02_any (-2000) (-1000) _).mono ?_); rintro e wq ⟨rfl, hy⟩; replace gv := gv.tr hy; (have x0 := gv.keep e10; have x1 := gv.keep e11; have x2 := gv.keep e14; have x3 := gv.keep e15; have x4 := gv.keep e16; have x5 := gv.keep e17; have x6 := gv.keep e34; have x7 := gv.keep e35; have x8 := gv.keep e50; have x9 := gv.keep e51))
    | (go_at_call 26; (refine (span02_any 3000 4000 _).mono ?_); rintro e wq ⟨rfl, hy⟩; replace gv := gv.tr hy; (have x0 := gv.keep e10; have x1 := gv.keep e11; have x2 := gv.keep e14; have x3 := gv.keep e15; have x4 := gv.keep e16; have x5 := gv.keep e17; have x6 := gv.keep e34; have x7 := gv.keep e35; have x8 := gv.keep e50; have x9 := gv.keep e51)))
  clear x0 x1 x2 x3 x4 x5 x6 x7 x8 x9 e10 e11 e14 e15 e16 e17 e34 e35 e50 e51
  replace gX := gX.tr gv
  replace b7 := b7.keep gv
  replace e7 := e7.grow gv
  replace f7 := f7.grow gv
  replace d7 := d7.grow gv
  replace r14 := r14.grow gv
  replace r15 := r15.grow gv
  replace r17 := r17.grow gv
  clear gv r1 r3 b5
  go_upto_region 15 with fail
  obtain ⟨N, hN⟩ : ∃ N, N = wq.heap.size := ⟨_, rfl⟩
  rw [← hN]
  have g1 := Gr.al wq (.cells #[.int .i64 304, .int .i64 204, .int .i64 304, .int .i64 204] 3)
  have g2 := Gr.al (wq.alloc (.cells #[.int .i64 304, .int .i64 204, .int .i64 304, .int .i64 204] 3)) (.cells #[.int .i64 101, .int .i64 51] 3)
  have g3 := Gr.al ((wq.alloc (.cells #[.int .i64 304, .int .i64 204, .int .i64 304, .int .i64 204] 3)).alloc (.cells #[.int .i64 101, .int .i64 51] 3)) (.cells #[.int .i64 101, .int .i64 51] 3)
  have g4 := Gr.al (((wq.alloc (.cells #[.int .i64 304, .int .i64 204, .int .i64 304, .int .i64 204] 3)).alloc (.cells #[.int .i64 101, .int .i64 51] 3)).alloc (.cells #[.int .i64 101, .int .i64 51] 3)) (.cells #[.int .i64 35, .slice (some ⟨N, 0, none⟩) 4 4, .int .i64 208, .slice (some ⟨N + 1, 0, none⟩) 2 2, .slice (some ⟨N + 1 + 1, 0, none⟩) 2 2, .int .i64 4, .bool false] 24)
  have z1 := (IRow.new' wq 3 [304, 204, 304, 204] (by decide) N hN #[.int .i64 304, .int .i64 204, .int .i64 304, .int .i64 204] (by rfl)).grow (g2.tr (g3.tr g4))
  have z2 := (IRow.new' (wq.alloc (.cells #[.int .i64 304, .int .i64 204, .int .i64 304, .int .i64 204] 3)) 3 [101, 51] (by decide) (N + 1) (by simp [hN]) #[.int .i64 101, .int .i64 51] (by rfl)).grow (g3.tr g4)
  have z3 := (IRow.new' ((wq.alloc (.cells #[.int .i64 304, .int .i64 204, .int .i64 304, .int .i64 204] 3)).alloc (.cells #[.int .i64 101, .int .i64 51] 3)) 3 [101, 51] (by decide) (N + 1 + 1) (by simp [hN]) #[.int .i64 101, .int .i64 51] (by rfl)).grow g4
  have b24 := Box.new (((wq.alloc (.cells #[.int .i64 304, .int .i64 204, .int .i64 304, .int .i64 204] 3)).alloc (.cells #[.int .i64 101, .int .i64 51] 3)).alloc (.cells #[.int .i64 101, .int .i64 51] 3)) [.int .i64 35, .slice (some ⟨N, 0, none⟩) 4 4, .int .i64 208, .slice (some ⟨N + 1, 0, none⟩) 2 2, .slice (some ⟨N + 1 + 1, 0, none⟩) 2 2, .int .i64 4, .bool false] 24 (N + 1 + 1 + 1) (by simp [hN])
  have g := g1.tr (g2.tr (g3.tr g4))
  refine wp_abs (fun Y => Gr w Y ∧ Box Y B7 [.int .i64 35, .slice (some ⟨P7, 0, none⟩) 4 4, .int .i64 208, .slice (some ⟨T7, 0, none⟩) 2 2, .slice (some ⟨C7, 0, none⟩) 2 2, .int .i64 4, .bool false] ∧ Box Y (N + 1 + 1 + 1) [.int .i64 35, .slice (some ⟨N, 0, none⟩) 4 4, .int .i64 208, .slice (some ⟨N + 1, 0, none⟩) 2 2, .slice (some ⟨N + 1 + 1, 0, none⟩) 2 2, .int .i64 4, .bool false] ∧ (IRow Y (some ⟨P7, 0, none⟩) [304, 204, 304, 204] ∧ IRow Y (some ⟨T7, 0, none⟩) [101, 51] ∧ IRow Y (some ⟨C7, 0, none⟩) [101, 51]) ∧ (IRow Y (some ⟨N, 0, none⟩) [304, 204, 304, 204] ∧ IRow Y (some ⟨N + 1, 0, none⟩) [101, 51] ∧ IRow Y (some ⟨N + 1 + 1, 0, none⟩) [101, 51]) ∧ IRow Y (some ⟨A14, O14, none⟩) [35, 339, 543, 847] ∧ IRow Y (some ⟨A15, O15, none⟩) [101, 309] ∧ SRow Y (some ⟨A17, O17, none⟩) playEx) ⟨gX.tr g, b7.keep g, b24, ⟨e7.grow g, f7.grow g, d7.grow g⟩, ⟨z1, z2, z3⟩, r14.grow g, r15.grow g, r17.grow g⟩ ?_
  clear gX b7 b24 e7 f7 d7 z1 z2 z3 r14 r15 r17 g g1 g2 g3 g4 hN
  rintro Y ⟨gX, b7, b24, ⟨e7, f7, d7⟩, ⟨z1, z2, z3⟩, r14, r15, r17⟩
  refine (show (∀ m : Nat → Value, Code.wp Try.prog _ _ ⟨#[.bool false, .slice (some ⟨A1, O1, none⟩) 9 k1, .int .i64 0, .slice (some ⟨A3, O3, none⟩) 5 k3, .int .i64 0, .pointer (some ⟨B5, 0, none⟩), .int .i64 0, .pointer (some ⟨B7, 0, none⟩), .int .i64 0, .int .i64 0, .int .i64 1051, .int .i64 410, .int .i64 430910, .int .i64 0, .slice (some ⟨A14, O14, none⟩) 4 k14, .slice (some ⟨A15, O15, none⟩) 2 k15, .int .i64 0, .slice (some ⟨A17, O17, none⟩) 4 k17, .int .i64 0, .bool false, .bool true, .int .i64 0, .int .i64 3000, .int .i64 0, .pointer (some ⟨(N + 1 + 1 + 1), 0, none⟩), m 25, m 26, m 27, m 28, m 29, m 30, m 31, m 32, m 33, m 34, m 35, m 36, m 37, m 38, m 39, m 40, m 41, m 42, m 43, m 44, m 45, m 46, m 47, m 48, m 49, m 50, m 51, m 52, m 53, m 54, m 55, m 56, m 57, m 58, m 59, m 60, m 61, m 62, m 63, m 64, m 65, m 66, m 67, m 68, m 69, m 70, m 71, m 72, m 73, m 74, m 75, m 76, m 77, m 78, m 79, m 80, m 81, m 82, m 83, m 84, m 85, m 86, m 87, m 88, m 89, m 90, m 91, m 92, m 93, m 94, m 95, m 96, m 97, m 98, m 99, m 100, m 101, m 102, m 103, m 104, m 105, m 106, m 107, m 108, m 109, m 110, m 111, m 112, m 113, m 114, m 115, m 116, m 117, m 118, m 119, m 120, m 121, m 122, m 123, m 124, m 125, m 126, m 127, m 128, m 129, m 130, m 131, m 132, m 133, m 134, m 135, m 136, m 137, m 138, m 139, m 140, m 141, m 142, m 143, m 144, m 145, m 146, m 147, m 148, m 149, m 150, m 151, m 152, m 153, m 154, m 155, m 156, m 157, m 158, m 159, m 160, m 161, m 162, m 163, m 164, m 165, m 166, m 167, m 168, m 169, m 170, m 171, m 172, m 173, m 174, undef, undef, undef, undef, undef, undef, undef, undef, undef, undef, undef, undef, undef, undef, undef, undef, undef, undef, undef, undef, undef, undef, undef, undef, undef, undef, undef, undef, undef, undef, undef, undef, undef, undef, undef, undef, undef, undef, undef], []⟩ _) → _ from fun h => h ((fun l : List Value => fun i => l.getD i undef) [undef, undef, undef, undef, undef, undef, undef, undef, undef, undef, undef, undef, undef, undef, undef, undef, undef, undef, undef, undef, undef, undef, undef, undef, undef, _, _, _, _, _, _, _, _, _, _, _, _, _, _, _, _, _, _, _, _, _, _, _, _, _, _, _, _, _, _, _, _, _, _, _, _, _, _, _, _, _, _, _, _, _, _, _, _, _, _, _, _, _, _, _, _, _, _, _, _, _, _, _, _, _, _, _, _, _, _, _, _, _, _, _, _, _, _, _, _, _, _, _, _, _, _, _, _, _, _, _, _, _, _, _, _, _, _, _, _, _, _, _, _, _, _, _, _, _, _, _, _, _, _, _, _, _, _, _, _, _, _, _, _, _, _, _, _, _, _, _, _, _, _, _, _, _, _, _, _, _, _, _, _, _, _, _, _, _, _])) ?_
  intro m
  dsimp only
  have c0 := b7.2 0 _ rfl
  have c1 := b7.2 1 _ rfl
  have c2 := b7.2 2 _ rfl
  have c3 := b7.2 3 _ rfl
  have c4 := b7.2 4 _ rfl
  have c5 := b7.2 5 _ rfl
  have c6 := b7.2 6 _ rfl
  have y0 := b24.2 0 _ rfl
  have y1 := b24.2 1 _ rfl
  have y2 := b24.2 2 _ rfl
  have y3 := b24.2 3 _ rfl
  have y4 := b24.2 4 _ rfl
  have y5 := b24.2 5 _ rfl
  have y6 := b24.2 6 _ rfl
  obtain ⟨_, _, he17, _, e170, e171⟩ := SRow.get r17 (j := 3) (x := ⟨6000, 8000⟩) rfl
  cases he17
  simp only [Nat.reduceMul] at e170 e171
  have gv := Gr.dr Y
  have x0 := gv.keep c0
  have x1 := gv.keep c1
  have x2 := gv.keep c2
  have x3 := gv.keep c3
  have x4 := gv.keep c4
  have x5 := gv.keep c5
  have x6 := gv.keep c6
  have x7 := gv.keep y0
  have x8 := gv.keep y1
  have x9 := gv.keep y2
  have x10 := gv.keep y3
  have x11 := gv.keep y4
  have x12 := gv.keep y5
  have x13 := gv.keep y6
  have x14 := gv.keep e170
  have x15 := gv.keep e171
  have tk0 : True := trivial
  go_region_held3 (fun w' => w'.cell? ⟨B7, 0, none⟩ = some (.int .i64 35) ∧ w'.cell? ⟨B7, 1, none⟩ = some (.slice (some ⟨P7, 0, none⟩) 4 4) ∧ w'.cell? ⟨B7, 2, none⟩ = some (.int .i64 208) ∧ w'.cell? ⟨B7, 3, none⟩ = some (.slice (some ⟨T7, 0, none⟩) 2 2) ∧ w'.cell? ⟨B7, 4, none⟩ = some (.slice (some ⟨C7, 0, none⟩) 2 2) ∧ w'.cell? ⟨B7, 5, none⟩ = some (.int .i64 4) ∧ w'.cell? ⟨B7, 6, none⟩ = some (.bool false) ∧ w'.cell? ⟨N + 1 + 1 + 1, 0, none⟩ = some (.int .i64 35) ∧ w'.cell? ⟨N + 1 + 1 + 1, 1, none⟩ = some (.slice (some ⟨N, 0, none⟩) 4 4) ∧ w'.cell? ⟨N + 1 + 1 + 1, 2, none⟩ = some (.int .i64 208) ∧ w'.cell? ⟨N + 1 + 1 + 1, 3, none⟩ = some (.slice (some ⟨N + 1, 0, none⟩) 2 2) ∧ w'.cell? ⟨N + 1 + 1 + 1, 4, none⟩ = some (.slice (some ⟨N + 1 + 1, 0, none⟩) 2 2) ∧ w'.cell? ⟨N + 1 + 1 + 1, 5, none⟩ = some (.int .i64 4) ∧ w'.cell? ⟨N + 1 + 1 + 1, 6, none⟩ = some (.bool false) ∧ w'.cell? ⟨A17, O17 + 6, none⟩ = some (.int .i64 6000) ∧ w'.cell? ⟨A17, O17 + 6 + 1, none⟩ = some (.int .i64 8000)) (first | exact ⟨x0, x1, x2, x3, x4, x5, x6, x7, x8, x9, x10, x11, x12, x13, x14, x15⟩ | go_keep) (first
    | (go_at_call 20; (refine (ex_same _ _ _ _ _ _ _ (e7.grow gv) (f7.grow gv) (d7.grow gv) (z1.grow gv) (z2.grow gv) (z3.grow gv)).mono ?_); rintro e wq ⟨rfl, hy⟩; replace gv := gv.tr hy; (have x0 := gv.keep c0; have x1 := gv.keep c1; have x2 := gv.keep c2; have x3 := gv.keep c3; have x4 := gv.keep c4; have x5 := gv.keep c5; have x6 := gv.keep c6; have x7 := gv.keep y0; have x8 := gv.keep y1; have x9 := gv.keep y2; have x10 := gv.keep y3; have x11 := gv.keep y4; have x12 := gv.keep y5; have x13 := gv.keep y6; have x14 := gv.keep e170; have x15 := gv.keep e171))
    | (have _t := tk0; clear tk0 _t; go_at_call 22; (refine (ex_ints4 _ _ _ _ (r14.grow (gv.tr (Gr.al _ _))) (IRow.new' _ 3 [35, 339, 543, 847] (by decide) _ rfl _ (by rfl))).mono ?_); rintro e wq ⟨rfl, hy⟩; replace gv := (gv.tr (Gr.al _ _)).tr hy; (have x0 := gv.keep c0; have x1 := gv.keep c1; have x2 := gv.keep c2; have x3 := gv.keep c3; have x4 := gv.keep c4; have x5 := gv.keep c5; have x6 := gv.keep c6; have x7 := gv.keep y0; have x8 := gv.keep y1; have x9 := gv.keep y2; have x10 := gv.keep y3; have x11 := gv.keep y4; have x12 := gv.keep y5; have x13 := gv.keep y6; have x14 := gv.keep e170; have x15 := gv.keep e171))
    | (go_at_call 22; (refine (ex_ints2 _ _ _ _ (r15.grow (gv.tr (Gr.al _ _))) (IRow.new' _ 3 [101, 309] (by decide) _ rfl _ (by rfl))).mono ?_); rintro e wq ⟨rfl, hy⟩; replace gv := (gv.tr (Gr.al _ _)).tr hy; (have x0 := gv.keep c0; have x1 := gv.keep c1; have x2 := gv.keep c2; have x3 := gv.keep c3; have x4 := gv.keep c4; have x5 := gv.keep c5; have x6 := gv.keep c6; have x7 := gv.keep y0; have x8 := gv.keep y1; have x9 := gv.keep y2; have x10 := gv.keep y3; have x11 := gv.keep y4; have x12 := gv.keep y5; have x13 := gv.keep y6; have x14 := gv.keep e170; have x15 := gv.keep e171))
    | (go_at_call 26; (refine (span02_any 6000 8000 _).mono ?_); rintro e wq ⟨rfl, hy⟩; replace gv := gv.tr hy; (have x0 := gv.keep c0; have x1 := gv.keep c1; have x2 := gv.keep c2; have x3 := gv.keep c3; have x4 := gv.keep c4; have x5 := gv.keep c5; have x6 := gv.keep c6; have x7 := gv.keep y0; have x8 := gv.keep y1; have x9 := gv.keep y2; have x10 := gv.keep y3; have x11 := gv.keep y4; have x12 := gv.keep y5; have x13 := gv.keep y6; have x14 := gv.keep e170; have x15 := gv.keep e171)))
  all_goals
    go_wp2
    go_ret
    exact ⟨rfl, gX.tr gv⟩

end Go.Proofs.Ytpfnlldnddjbmaa
