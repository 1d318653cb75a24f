/- Contract of Play of two valid blanks. (Made by gen_play.py.) -/
import Derived.Test.YtaommdjekddgiaaS8
import Derived.Test.YtaommdjekddgiaaR3
import Derived.Test.YtaommdjekddgiaaV7
import Derived.Deep.MidRow
namespace Go.Proofs.Ytaommdjekddgiaa
set_option linter.unusedVariables false
set_option linter.unusedSimpArgs false
open Go.RowKit

def playAt (hei : Int) (pan top bot : List Int) (opn : Bool) (cl ch : Int) (hei' : Int) (pan' top' bot' : List Int) (opn' : Bool) (cl' ch' : Int) (k : Nat) : Sp :=
  lessL (innerAt 0 hei pan top bot opn cl ch k) [flatAt 0 hei' pan' top' bot' opn' k, ⟨cl', ch'⟩]

def playL (hei : Int) (pan top bot : List Int) (opn : Bool) (cl ch : Int) (hei' : Int) (pan' top' bot' : List Int) (opn' : Bool) (cl' ch' : Int) (n : Nat) : List Sp :=
  (List.range n).map (playAt hei pan top bot opn cl ch hei' pan' top' bot' opn' cl' ch')

def CSp (l : List Sp) (v : World) (t : Value) : Prop := ∃ a c, t = .slice a l.length c ∧ SRow v a l

theorem CSp.up {l : List Sp} {v v' : World} {t : Value} (h : CSp l v t) (g : Gr v v') : CSp l v' t := by
  obtain ⟨a, c, e, r⟩ := h
  exact ⟨a, c, e, r.grow g⟩

def CIn (l : List Int) (v : World) (t : Value) : Prop := ∃ a c, t = .slice a l.length c ∧ IRow v a l

theorem CIn.up {l : List Int} {v v' : World} {t : Value} (h : CIn l v t) (g : Gr v v') : CIn l v' t := by
  obtain ⟨a, c, e, r⟩ := h
  exact ⟨a, c, e, r.grow g⟩

/-- A slice of one new span. -/
def COne (lo hi : Int) (v : World) (t : Value) : Prop := ∃ b, t = .slice (some ⟨b, 0, none⟩) 1 1 ∧ b < v.heap.size ∧ Box v b [.int .i64 lo, .int .i64 hi]

theorem COne.up {lo hi : Int} {v v' : World} {t : Value} (h : COne lo hi v t) (g : Gr v v') : COne lo hi v' t := by
  obtain ⟨b, e, hb, r⟩ := h
  exact ⟨b, e, Nat.lt_of_lt_of_le hb g.size, r.keep g⟩

theorem Box.news {v : World} {b : Nat} {vs : List Value} (h : Box v b vs) : ∀ (j : Nat) (u : Value), vs[j]? = some u → v.cell? ((⟨b, 0, none⟩ : Addr).add j) = some u := by
  intro j u hu
  have hc := h.2 j u hu
  unfold Addr.add
  split
  · rename_i h0
    subst h0
    exact hc
  · simpa using hc

theorem inner_bd {tab hei slo : Int} {pan top bot : List Int} {opn : Bool} {cl ch : Int} (G : GoodB tab hei slo pan top bot opn) (c0 : 0 ≤ cl) (c1 : cl ≤ 10000) (c2 : 0 ≤ ch) (c3 : ch ≤ 10000) {k : Nat} (hk : k < 9) : SpB 1000000000 (innerAt 0 hei pan top bot opn cl ch k) := by
  obtain ⟨a, b, c, d⟩ := flat_bd (off := 0) G (by omega) (by omega) hk
  have hL : lostL k opn = 1 ∨ lostL k opn = 2 := by unfold lostL; split <;> simp
  unfold innerAt insideS
  rcases hL with e | e <;> rw [e] <;> exact ⟨by simp only; omega, by simp only; omega, by simp only; omega, by simp only; omega⟩

theorem okSpan_four {cl ch : Int} (hc : okSpan 1 10000 cl ch = true) : 0 ≤ cl ∧ cl ≤ 10000 ∧ 0 ≤ ch ∧ ch ≤ 10000 := by
  simp only [okSpan, inB, in1, List.all_cons, List.all_nil, Bool.and_true, Bool.and_eq_true, decide_eq_true_eq] at hc
  omega

theorem two_bd {f : Sp} {cl ch : Int} (hf : SpB 10000000 f) (c0 : 0 ≤ cl) (c1 : cl ≤ 10000) (c2 : 0 ≤ ch) (c3 : ch ≤ 10000) : ∀ x ∈ ([f, ⟨cl, ch⟩] : List Sp), SpB 1000000000 x := by
  obtain ⟨a, b, c, d⟩ := hf
  intro x hx
  simp at hx
  rcases hx with rfl | rfl
  · exact ⟨by omega, by omega, by omega, by omega⟩
  · exact ⟨by simp only; omega, by simp only; omega, by simp only; omega, by simp only; omega⟩

set_option maxRecDepth 100000 in
set_option maxHeartbeats 4000000 in
theorem play_ok (tab hei slo : Int) (pan top bot : List Int) (pa ta ba : Option Addr) (pc tc bc : Nat) (opn : Bool) (tab' hei' slo' : Int) (pan' top' bot' : List Int) (pa' ta' ba' : Option Addr) (pc' tc' bc' : Nat) (opn' : Bool) (cl ch cl' ch' : Int) (G : GoodB tab hei slo pan top bot opn) (G' : GoodB tab' hei' slo' pan' top' bot' opn') (hc : okSpan 1 10000 cl ch = true) (hc' : okSpan 1 10000 cl' ch' = true) (w : World)
    (hp : IRow w pa pan) (ht : IRow w ta top) (hb : IRow w ba bot) (hp' : IRow w pa' pan') (ht' : IRow w ta' top') (hb' : IRow w ba' bot') :
    Calls Try.prog 28 #[.agg #[.int .i64 tab, .slice pa pan.length pc, .int .i64 hei, .slice ta top.length tc, .slice ba bot.length bc, .int .i64 slo, .bool opn], .agg #[.int .i64 tab', .slice pa' pan'.length pc', .int .i64 hei', .slice ta' top'.length tc', .slice ba' bot'.length bc', .int .i64 slo', .bool opn'], .agg #[.int .i64 cl, .int .i64 ch], .agg #[.int .i64 cl', .int .i64 ch']] w (SpansPost (playL hei pan top bot opn cl ch hei' pan' top' bot' opn' cl' ch' 4) w) := by
  have gg := (((Gr.al w (.cells #[.int .i64 tab, .slice pa pan.length pc, .int .i64 hei, .slice ta top.length tc, .slice ba bot.length bc, .int .i64 slo, .bool opn] 58)).tr (Gr.al _ (.cells #[.int .i64 tab', .slice pa' pan'.length pc', .int .i64 hei', .slice ta' top'.length tc', .slice ba' bot'.length bc', .int .i64 slo', .bool opn'] 58))).tr (Gr.al _ (.cells #[.int .i64 cl, .int .i64 ch] 38))).tr (Gr.al _ (.cells #[.int .i64 cl', .int .i64 ch'] 38))
  have hB := (((Box.new w [.int .i64 tab, .slice pa pan.length pc, .int .i64 hei, .slice ta top.length tc, .slice ba bot.length bc, .int .i64 slo, .bool opn] 58 w.heap.size rfl).keep (Gr.al _ (.cells #[.int .i64 tab', .slice pa' pan'.length pc', .int .i64 hei', .slice ta' top'.length tc', .slice ba' bot'.length bc', .int .i64 slo', .bool opn'] 58))).keep (Gr.al _ (.cells #[.int .i64 cl, .int .i64 ch] 38))).keep (Gr.al _ (.cells #[.int .i64 cl', .int .i64 ch'] 38))
  have hB' := ((Box.new (w.alloc (.cells #[.int .i64 tab, .slice pa pan.length pc, .int .i64 hei, .slice ta top.length tc, .slice ba bot.length bc, .int .i64 slo, .bool opn] 58)) [.int .i64 tab', .slice pa' pan'.length pc', .int .i64 hei', .slice ta' top'.length tc', .slice ba' bot'.length bc', .int .i64 slo', .bool opn'] 58 (w.heap.size + 1) (by simp)).keep (Gr.al _ (.cells #[.int .i64 cl, .int .i64 ch] 38))).keep (Gr.al _ (.cells #[.int .i64 cl', .int .i64 ch'] 38))
  have hC := (Box.new ((w.alloc (.cells #[.int .i64 tab, .slice pa pan.length pc, .int .i64 hei, .slice ta top.length tc, .slice ba bot.length bc, .int .i64 slo, .bool opn] 58)).alloc (.cells #[.int .i64 tab', .slice pa' pan'.length pc', .int .i64 hei', .slice ta' top'.length tc', .slice ba' bot'.length bc', .int .i64 slo', .bool opn'] 58)) [.int .i64 cl, .int .i64 ch] 38 (w.heap.size + 1 + 1) (by simp)).keep (Gr.al _ (.cells #[.int .i64 cl', .int .i64 ch'] 38))
  have hC' := Box.new (((w.alloc (.cells #[.int .i64 tab, .slice pa pan.length pc, .int .i64 hei, .slice ta top.length tc, .slice ba bot.length bc, .int .i64 slo, .bool opn] 58)).alloc (.cells #[.int .i64 tab', .slice pa' pan'.length pc', .int .i64 hei', .slice ta' top'.length tc', .slice ba' bot'.length bc', .int .i64 slo', .bool opn'] 58)).alloc (.cells #[.int .i64 cl, .int .i64 ch] 38)) [.int .i64 cl', .int .i64 ch'] 38 (w.heap.size + 1 + 1 + 1) (by simp)
  have HG := Lib.hid G
  have HG' := Lib.hid G'
  have hcb := okSpan_four hc
  have hcb' := okSpan_four hc'
  have HCB := Lib.hid hcb
  have HCB' := Lib.hid hcb'
  have HCS : Hid (([⟨cl, ch⟩, ⟨cl', ch'⟩] : List Sp).all (okSp 1 10000) = true) := Lib.hid (by simp only [List.all_cons, List.all_nil, okSp, hc, hc', Bool.and_self])
  clear G G' hc hc' hcb hcb'
  go_enter Try.func28, Try.ntmps28
  go_upto_region 1 with fail
  refine wp_abs (fun W => Gr w W ∧ Box W w.heap.size [.int .i64 tab, .slice pa pan.length pc, .int .i64 hei, .slice ta top.length tc, .slice ba bot.length bc, .int .i64 slo, .bool opn] ∧ Box W (w.heap.size + 1) [.int .i64 tab', .slice pa' pan'.length pc', .int .i64 hei', .slice ta' top'.length tc', .slice ba' bot'.length bc', .int .i64 slo', .bool opn'] ∧ Box W (w.heap.size + 1 + 1) [.int .i64 cl, .int .i64 ch] ∧ Box W (w.heap.size + 1 + 1 + 1) [.int .i64 cl', .int .i64 ch']) ⟨gg, hB, hB', hC, hC'⟩ ?_
  clear gg hB hB' hC hC'
  rintro W ⟨gg, hB, hB', hC, hC'⟩
  refine wp_region_inv' 10 [(1, 0), (3, 2), (6, 4), (6, 5), (7, 6), (8, 1), (8, 3), (8, 7), (9, 8)] (fun a0 listed a v => ∃ (t15 t16 t17 t18 t19 t20 t21 t22 t23 t24 : Value), a = ⟨#[.agg #[.int .i64 tab, .slice pa pan.length pc, .int .i64 hei, .slice ta top.length tc, .slice ba bot.length bc, .int .i64 slo, .bool opn], .agg #[.int .i64 tab', .slice pa' pan'.length pc', .int .i64 hei', .slice ta' top'.length tc', .slice ba' bot'.length bc', .int .i64 slo', .bool opn'], .agg #[.int .i64 cl, .int .i64 ch], .agg #[.int .i64 cl', .int .i64 ch'], .pointer (some ⟨w.heap.size, 0, none⟩), .pointer (some ⟨(w.heap.size + 1), 0, none⟩), .pointer (some ⟨(w.heap.size + 1 + 1), 0, none⟩), .pointer (some ⟨(w.heap.size + 1 + 1 + 1), 0, none⟩), .slice none 0 0, .int .i64 0, undef, undef, undef, undef, undef, t15, t16, t17, t18, t19, t20, t21, t22, t23, t24, undef, undef, undef, undef, undef, undef, undef, undef, undef, undef, undef, undef, undef, undef, undef, undef, undef, undef, undef, undef, undef, undef, undef, undef, undef, undef], []⟩ ∧ Gr W v ∧ Fact listed 0 (t15 = .agg #[.int .i64 tab, .slice pa pan.length pc, .int .i64 hei, .slice ta top.length tc, .slice ba bot.length bc, .int .i64 slo, .bool opn]) ∧ Fact listed 1 (t16 = .int .i64 0) ∧ Fact listed 2 (t17 = .agg #[.int .i64 tab', .slice pa' pan'.length pc', .int .i64 hei', .slice ta' top'.length tc', .slice ba' bot'.length bc', .int .i64 slo', .bool opn']) ∧ Fact listed 3 (t18 = .int .i64 0) ∧ Fact listed 4 (t19 = .agg #[.int .i64 cl, .int .i64 ch]) ∧ Fact listed 5 (t20 = .agg #[.int .i64 cl', .int .i64 ch']) ∧ Fact listed 6 (CSp [⟨cl, ch⟩, ⟨cl', ch'⟩] v t21) ∧ Fact listed 7 (t22 = .int .i64 0) ∧ Fact listed 8 (CIn [0, 0, 0] v t23) ∧ Fact listed 9 (t24 = .int .i64 0)) (by kernel_rfl) (by kernel_rfl) (by kernel_rfl) ?init1 ?step1 ?fin1
  case init1 => exact ⟨_, _, _, _, _, _, _, _, _, _, by rfl, Gr.dr W, Fact.no _ _ _, Fact.no _ _ _, Fact.no _ _ _, Fact.no _ _ _, Fact.no _ _ _, Fact.no _ _ _, Fact.no _ _ _, Fact.no _ _ _, Fact.no _ _ _, Fact.no _ _ _⟩
  case step1 =>
    rintro i hi listed a v hun hdep ⟨t15, t16, t17, t18, t19, t20, t21, t22, t23, t24, rfl, gv, f0, f1, f2, f3, f4, f5, f6, f7, f8, f9⟩
    have hi8 : i = 0 ∨ i = 1 ∨ i = 2 ∨ i = 3 ∨ i = 4 ∨ i = 5 ∨ i = 6 ∨ i = 7 ∨ i = 8 ∨ i = 9 := by omega
    rcases hi8 with rfl | rfl | rfl | rfl | rfl | rfl | rfl | rfl | rfl | rfl
    · clear hdep
      refine wpOp_step rfl (fun K' hK => ?_)
      rw [if_pos (by rfl)]
      refine wp_load_mid 58 _ rfl w.heap.size 0 (by rfl) [.int .i64 tab, .slice pa pan.length pc, .int .i64 hei, .slice ta top.length tc, .slice ba bot.length bc, .int .i64 slo, .bool opn] _ (fun j u hu => by rw [Nat.zero_add]; exact (hB.keep gv).2 j u hu) Try.underlying58 rfl (by kernel_rfl) ?_
      exact hK _ _ ⟨_, t16, t17, t18, t19, t20, t21, t22, t23, t24, by rfl, gv, Fact.lay (rfl), f1.keep (by decide), f2.keep (by decide), f3.keep (by decide), f4.keep (by decide), f5.keep (by decide), f6.keep (by decide), f7.keep (by decide), f8.keep (by decide), f9.keep (by decide)⟩
    · have d0 := f0 (hdep 0 (by simp))
      subst d0
      clear hdep
      refine wpOp_step rfl (fun K' hK => ?_)
      go_simp
      refine (checkB_ok _ _ _ _ _ _ _ _ _ _ _ _ _ HG.out v (hp.grow (gg.tr gv)) (ht.grow (gg.tr gv)) (hb.grow (gg.tr gv))).mono ?_
      rintro e v' ⟨rfl, hg⟩
      exact hK _ _ ⟨_, _, t17, t18, t19, t20, t21, t22, t23, t24, by rfl, gv.tr hg, f0.keep (by decide), Fact.lay (rfl), f2.keep (by decide), f3.keep (by decide), f4.keep (by decide), f5.keep (by decide), (f6.keep (by decide)).map (fun h => h.up hg), f7.keep (by decide), (f8.keep (by decide)).map (fun h => h.up hg), f9.keep (by decide)⟩
    · clear hdep
      refine wpOp_step rfl (fun K' hK => ?_)
      rw [if_pos (by rfl)]
      refine wp_load_mid 58 _ rfl (w.heap.size + 1) 0 (by rfl) [.int .i64 tab', .slice pa' pan'.length pc', .int .i64 hei', .slice ta' top'.length tc', .slice ba' bot'.length bc', .int .i64 slo', .bool opn'] _ (fun j u hu => by rw [Nat.zero_add]; exact (hB'.keep gv).2 j u hu) Try.underlying58 rfl (by kernel_rfl) ?_
      exact hK _ _ ⟨t15, t16, _, t18, t19, t20, t21, t22, t23, t24, by rfl, gv, f0.keep (by decide), f1.keep (by decide), Fact.lay (rfl), f3.keep (by decide), f4.keep (by decide), f5.keep (by decide), f6.keep (by decide), f7.keep (by decide), f8.keep (by decide), f9.keep (by decide)⟩
    · have d2 := f2 (hdep 2 (by simp))
      subst d2
      clear hdep
      refine wpOp_step rfl (fun K' hK => ?_)
      go_simp
      refine (checkB_ok _ _ _ _ _ _ _ _ _ _ _ _ _ HG'.out v (hp'.grow (gg.tr gv)) (ht'.grow (gg.tr gv)) (hb'.grow (gg.tr gv))).mono ?_
      rintro e v' ⟨rfl, hg⟩
      exact hK _ _ ⟨t15, t16, _, _, t19, t20, t21, t22, t23, t24, by rfl, gv.tr hg, f0.keep (by decide), f1.keep (by decide), f2.keep (by decide), Fact.lay (rfl), f4.keep (by decide), f5.keep (by decide), (f6.keep (by decide)).map (fun h => h.up hg), f7.keep (by decide), (f8.keep (by decide)).map (fun h => h.up hg), f9.keep (by decide)⟩
    · clear hdep
      refine wpOp_step rfl (fun K' hK => ?_)
      rw [if_pos (by rfl)]
      refine wp_load_mid 38 _ rfl (w.heap.size + 1 + 1) 0 (by rfl) [.int .i64 cl, .int .i64 ch] _ (fun j u hu => by rw [Nat.zero_add]; exact (hC.keep gv).2 j u hu) Try.underlying38 rfl (by kernel_rfl) ?_
      exact hK _ _ ⟨t15, t16, t17, t18, _, t20, t21, t22, t23, t24, by rfl, gv, f0.keep (by decide), f1.keep (by decide), f2.keep (by decide), f3.keep (by decide), Fact.lay (rfl), f5.keep (by decide), f6.keep (by decide), f7.keep (by decide), f8.keep (by decide), f9.keep (by decide)⟩
    · clear hdep
      refine wpOp_step rfl (fun K' hK => ?_)
      rw [if_pos (by rfl)]
      refine wp_load_mid 38 _ rfl (w.heap.size + 1 + 1 + 1) 0 (by rfl) [.int .i64 cl', .int .i64 ch'] _ (fun j u hu => by rw [Nat.zero_add]; exact (hC'.keep gv).2 j u hu) Try.underlying38 rfl (by kernel_rfl) ?_
      exact hK _ _ ⟨t15, t16, t17, t18, t19, _, t21, t22, t23, t24, by rfl, gv, f0.keep (by decide), f1.keep (by decide), f2.keep (by decide), f3.keep (by decide), f4.keep (by decide), Fact.lay (rfl), f6.keep (by decide), f7.keep (by decide), f8.keep (by decide), f9.keep (by decide)⟩
    · have d4 := f4 (hdep 4 (by simp))
      have d5 := f5 (hdep 5 (by simp))
      subst d4 d5
      clear hdep
      refine wpOp_step rfl (fun K' hK => ?_)
      go_simp
      have hg := Gr.al v (.cells #[.int .i64 cl, .int .i64 ch, .int .i64 cl', .int .i64 ch'] 38)
      exact hK _ _ ⟨t15, t16, t17, t18, _, _, _, t22, t23, t24, by rfl, gv.tr hg, f0.keep (by decide), f1.keep (by decide), f2.keep (by decide), f3.keep (by decide), f4.keep (by decide), f5.keep (by decide), Fact.lay (⟨_, _, rfl, SRow.new2 v 38 cl ch cl' ch' v.heap.size rfl⟩), f7.keep (by decide), (f8.keep (by decide)).map (fun h => h.up hg), f9.keep (by decide)⟩
    · obtain ⟨a6, c6, rfl, r6⟩ := f6 (hdep 6 (by simp))
      clear hdep
      refine wpOp_step rfl (fun K' hK => ?_)
      go_simp
      refine (measured_ok [⟨cl, ch⟩, ⟨cl', ch'⟩] HCS.out _ _ v r6).mono ?_
      rintro e v' ⟨rfl, hg⟩
      exact hK _ _ ⟨t15, t16, t17, t18, t19, t20, _, _, t23, t24, by rfl, gv.tr hg, f0.keep (by decide), f1.keep (by decide), f2.keep (by decide), f3.keep (by decide), f4.keep (by decide), f5.keep (by decide), (f6.keep (by decide)).map (fun h => h.up hg), Fact.lay (rfl), (f8.keep (by decide)).map (fun h => h.up hg), f9.keep (by decide)⟩
    · have d1 := f1 (hdep 1 (by simp))
      have d3 := f3 (hdep 3 (by simp))
      have d7 := f7 (hdep 7 (by simp))
      subst d1 d3 d7
      clear hdep
      refine wpOp_step rfl (fun K' hK => ?_)
      go_simp
      have hg := Gr.al v (.cells #[.int .i64 0, .int .i64 0, .int .i64 0] 39)
      exact hK _ _ ⟨t15, _, t17, _, t19, t20, t21, _, _, t24, by rfl, gv.tr hg, f0.keep (by decide), f1.keep (by decide), f2.keep (by decide), f3.keep (by decide), f4.keep (by decide), f5.keep (by decide), (f6.keep (by decide)).map (fun h => h.up hg), f7.keep (by decide), Fact.lay (⟨_, _, rfl, zeros_row v 39⟩), f9.keep (by decide)⟩
    · obtain ⟨a8, c8, rfl, r8⟩ := f8 (hdep 8 (by simp))
      clear hdep
      refine wpOp_step rfl (fun K' hK => ?_)
      go_simp
      refine (first_three _ _ v r8).mono ?_
      rintro e v' ⟨rfl, hg⟩
      exact hK _ _ ⟨t15, t16, t17, t18, t19, t20, t21, t22, _, _, by rfl, gv.tr hg, f0.keep (by decide), f1.keep (by decide), f2.keep (by decide), f3.keep (by decide), f4.keep (by decide), f5.keep (by decide), (f6.keep (by decide)).map (fun h => h.up hg), f7.keep (by decide), (f8.keep (by decide)).map (fun h => h.up hg), Fact.lay (rfl)⟩
  case fin1 =>
    rintro listed a v hls hall ⟨t15, t16, t17, t18, t19, t20, t21, t22, t23, t24, rfl, gv, f0, f1, f2, f3, f4, f5, f6, f7, f8, f9⟩
    have d9 := f9.now hall hls (by omega)
    subst d9
    clear f0 f1 f2 f3 f4 f5 f6 f7 f8 f9 hall hls
    show wpList _ _ _ (List.drop 10 _) _ _
    simp only [List.drop_succ_cons, List.drop_zero]
    go_upto_region 4 with fail
    have hB := hB.keep gv
    have hB' := hB'.keep gv
    have hC := hC.keep gv
    have hC' := hC'.keep gv
    have gg := gg.tr gv
    clear gv
    refine (show (∀ s : Nat → Value, Code.wp Try.prog _ _ ⟨#[s 0, s 1, s 2, s 3, .pointer (some ⟨w.heap.size, 0, none⟩), .pointer (some ⟨(w.heap.size + 1), 0, none⟩), .pointer (some ⟨(w.heap.size + 1 + 1), 0, none⟩), .pointer (some ⟨(w.heap.size + 1 + 1 + 1), 0, none⟩), .slice none 0 0, .int .i64 0, s 10, undef, undef, undef, undef, s 15, s 16, s 17, s 18, s 19, s 20, s 21, s 22, s 23, s 24, s 25, s 26, undef, undef, undef, undef, undef, undef, undef, undef, undef, undef, undef, undef, undef, undef, undef, undef, undef, undef, undef, undef, undef, undef, undef, undef], []⟩ _) → _ from fun h => h ((fun l : List Value => fun i => l.getD i undef) [_, _, _, _, undef, undef, undef, undef, undef, undef, _, undef, undef, undef, undef, _, _, _, _, _, _, _, _, _, _, _, _])) ?_
    intro s
    dsimp only
    refine wp_region_inv' 6 [(1, 0), (3, 2)] (fun a0 listed a v' => ∃ (t28 t29 t30 t31 t11 t12 : Value) (Bs : List Nat), a = ⟨#[s 0, s 1, s 2, s 3, .pointer (some ⟨w.heap.size, 0, none⟩), .pointer (some ⟨(w.heap.size + 1), 0, none⟩), .pointer (some ⟨(w.heap.size + 1 + 1), 0, none⟩), .pointer (some ⟨(w.heap.size + 1 + 1 + 1), 0, none⟩), .slice none 0 0, .int .i64 0, s 10, t11, t12, undef, undef, s 15, s 16, s 17, s 18, s 19, s 20, s 21, s 22, s 23, s 24, s 25, s 26, undef, t28, t29, t30, t31, undef, undef, undef, undef, undef, undef, undef, undef, undef, undef, undef, undef, undef, undef, undef, undef, undef, undef, undef], []⟩ ∧ Sep v v' [] Bs ∧ Fact listed 0 (t28 = .agg #[.int .i64 tab, .slice pa pan.length pc, .int .i64 hei, .slice ta top.length tc, .slice ba bot.length bc, .int .i64 slo, .bool opn]) ∧ Fact listed 1 (t29 = .agg #[.int .i64 tab, .slice pa pan.length pc, .int .i64 hei, .slice ta top.length tc, .slice ba bot.length bc, .int .i64 slo, .bool opn, .int .i64 0, .slice ta top.length tc, .slice ba bot.length bc]) ∧ Fact listed 2 (t30 = .agg #[.int .i64 tab', .slice pa' pan'.length pc', .int .i64 hei', .slice ta' top'.length tc', .slice ba' bot'.length bc', .int .i64 slo', .bool opn']) ∧ Fact listed 3 (t31 = .agg #[.int .i64 tab', .slice pa' pan'.length pc', .int .i64 hei', .slice ta' top'.length tc', .slice ba' bot'.length bc', .int .i64 slo', .bool opn', .int .i64 0, .slice ta' top'.length tc', .slice ba' bot'.length bc']) ∧ Fact listed 4 (CPtr [.int .i64 0, .slice none 0 0, .int .i64 0, .slice none 0 0, .slice none 0 0, .int .i64 0, .bool false, .int .i64 0, .slice none 0 0, .slice none 0 0] 124 v' Bs t11) ∧ Fact listed 5 (CPtr [.int .i64 0, .slice none 0 0, .int .i64 0, .slice none 0 0, .slice none 0 0, .int .i64 0, .bool false, .int .i64 0, .slice none 0 0, .slice none 0 0] 124 v' Bs t12) ∧ Fact listed 4 (Fact listed 5 (t11 ≠ t12))) (by kernel_rfl) (by kernel_rfl) (by kernel_rfl) ?init4 ?step4 ?fin4
    case init4 => exact ⟨undef, undef, undef, undef, undef, undef, [], by rfl, ⟨Gr.dr v, by simp, by simp⟩, Fact.no _ _ _, Fact.no _ _ _, Fact.no _ _ _, Fact.no _ _ _, Fact.no _ _ _, Fact.no _ _ _, Fact.no _ _ _⟩
    case step4 =>
      rintro i hi listed a v' hun hdep ⟨t28, t29, t30, t31, t11, t12, Bs, rfl, hsep, f0, f1, f2, f3, f4, f5, f6⟩
      have hi8 : i = 0 ∨ i = 1 ∨ i = 2 ∨ i = 3 ∨ i = 4 ∨ i = 5 := by omega
      rcases hi8 with rfl | rfl | rfl | rfl | rfl | rfl
      · clear hdep
        refine wpOp_step rfl (fun K' hK => ?_)
        rw [if_pos (by rfl)]
        refine wp_load_mid 58 _ rfl w.heap.size 0 (by rfl) [.int .i64 tab, .slice pa pan.length pc, .int .i64 hei, .slice ta top.length tc, .slice ba bot.length bc, .int .i64 slo, .bool opn] _ (fun j u hu => by rw [Nat.zero_add]; exact (hB.keep hsep.gr).2 j u hu) Try.underlying58 rfl (by kernel_rfl) ?_
        exact hK _ _ ⟨_, t29, t30, t31, t11, t12, Bs, by rfl, hsep, Fact.lay rfl, f1.keep (by decide), f2.keep (by decide), f3.keep (by decide), f4.keep (by decide), f5.keep (by decide), (f6.keep (by decide)).map (fun h => h.keep (by decide))⟩
      · have d0 := f0 (hdep 0 (by simp))
        subst d0
        clear hdep
        refine wpOp_step rfl (fun K' hK => ?_)
        go_simp
        refine (layS_any _ _ _ _ _ _ _ _ _ _ _ _ _ _ v').mono ?_
        rintro e v2 ⟨rfl, hg⟩
        have s1 := hsep.call hg [] (by simp)
        exact hK _ _ ⟨_, _, t30, t31, t11, t12, Bs, by rfl, s1, f0.keep (by decide), Fact.lay rfl, f2.keep (by decide), f3.keep (by decide), (f4.keep (by decide)).map (fun h => h.up hg (mem_same _)), (f5.keep (by decide)).map (fun h => h.up hg (mem_same _)), (f6.keep (by decide)).map (fun h => h.keep (by decide))⟩
      · clear hdep
        refine wpOp_step rfl (fun K' hK => ?_)
        rw [if_pos (by rfl)]
        refine wp_load_mid 58 _ rfl (w.heap.size + 1) 0 (by rfl) [.int .i64 tab', .slice pa' pan'.length pc', .int .i64 hei', .slice ta' top'.length tc', .slice ba' bot'.length bc', .int .i64 slo', .bool opn'] _ (fun j u hu => by rw [Nat.zero_add]; exact (hB'.keep hsep.gr).2 j u hu) Try.underlying58 rfl (by kernel_rfl) ?_
        exact hK _ _ ⟨t28, t29, _, t31, t11, t12, Bs, by rfl, hsep, f0.keep (by decide), f1.keep (by decide), Fact.lay rfl, f3.keep (by decide), f4.keep (by decide), f5.keep (by decide), (f6.keep (by decide)).map (fun h => h.keep (by decide))⟩
      · have d2 := f2 (hdep 2 (by simp))
        subst d2
        clear hdep
        refine wpOp_step rfl (fun K' hK => ?_)
        go_simp
        refine (layS_any _ _ _ _ _ _ _ _ _ _ _ _ _ _ v').mono ?_
        rintro e v2 ⟨rfl, hg⟩
        have s1 := hsep.call hg [] (by simp)
        exact hK _ _ ⟨t28, t29, _, _, t11, t12, Bs, by rfl, s1, f0.keep (by decide), f1.keep (by decide), f2.keep (by decide), Fact.lay rfl, (f4.keep (by decide)).map (fun h => h.up hg (mem_same _)), (f5.keep (by decide)).map (fun h => h.up hg (mem_same _)), (f6.keep (by decide)).map (fun h => h.keep (by decide))⟩
      · clear hdep
        refine wpOp_step rfl (fun K' hK => ?_)
        go_simp
        have hg := Gr.al v' (.cells (List.toArray [.int .i64 0, .slice none 0 0, .int .i64 0, .slice none 0 0, .slice none 0 0, .int .i64 0, .bool false, .int .i64 0, .slice none 0 0, .slice none 0 0]) 124)
        have s1 := hsep.al (.cells (List.toArray [.int .i64 0, .slice none 0 0, .int .i64 0, .slice none 0 0, .slice none 0 0, .int .i64 0, .bool false, .int .i64 0, .slice none 0 0, .slice none 0 0]) 124)
        exact hK _ _ ⟨t28, t29, t30, t31, _, t12, _, by rfl, s1, f0.keep (by decide), f1.keep (by decide), f2.keep (by decide), f3.keep (by decide), Fact.lay (CPtr.new v' [.int .i64 0, .slice none 0 0, .int .i64 0, .slice none 0 0, .slice none 0 0, .int .i64 0, .bool false, .int .i64 0, .slice none 0 0, .slice none 0 0] 124 Bs), (f5.keep (by decide)).map (fun h => h.up hg (mem_con _ _)), Fact.lay (fun e5 => by obtain ⟨B, eB, hB0, _⟩ := f5 (by rwa [getD_set_ne false (by decide)] at e5); rw [eB]; intro e; have hlt_ := (hsep.bs B hB0).2; cases e; exact Nat.lt_irrefl _ hlt_)⟩
      · clear hdep
        refine wpOp_step rfl (fun K' hK => ?_)
        go_simp
        have hg := Gr.al v' (.cells (List.toArray [.int .i64 0, .slice none 0 0, .int .i64 0, .slice none 0 0, .slice none 0 0, .int .i64 0, .bool false, .int .i64 0, .slice none 0 0, .slice none 0 0]) 124)
        have s1 := hsep.al (.cells (List.toArray [.int .i64 0, .slice none 0 0, .int .i64 0, .slice none 0 0, .slice none 0 0, .int .i64 0, .bool false, .int .i64 0, .slice none 0 0, .slice none 0 0]) 124)
        exact hK _ _ ⟨t28, t29, t30, t31, t11, _, _, by rfl, s1, f0.keep (by decide), f1.keep (by decide), f2.keep (by decide), f3.keep (by decide), (f4.keep (by decide)).map (fun h => h.up hg (mem_con _ _)), Fact.lay (CPtr.new v' [.int .i64 0, .slice none 0 0, .int .i64 0, .slice none 0 0, .slice none 0 0, .int .i64 0, .bool false, .int .i64 0, .slice none 0 0, .slice none 0 0] 124 Bs), fun e4 => Fact.lay (by obtain ⟨B, eB, hB0, _⟩ := f4 (by rwa [getD_set_ne false (by decide)] at e4); rw [eB]; intro e; have hlt_ := (hsep.bs B hB0).2; cases e; exact Nat.lt_irrefl _ hlt_)⟩
    case fin4 =>
      rintro listed a v' hls hall ⟨t28, t29, t30, t31, t11, t12, Bs, rfl, hsep, f0, f1, f2, f3, f4, f5, f6⟩
      have d1 := f1.now hall hls (by omega)
      have d3 := f3.now hall hls (by omega)
      have d0 := f0.now hall hls (by omega)
      have d2 := f2.now hall hls (by omega)
      obtain ⟨D1, rfl, k1, z1⟩ := f4.now hall hls (by omega)
      obtain ⟨D2, rfl, k2, z2⟩ := f5.now hall hls (by omega)
      have n12 : D1 ≠ D2 := fun e => ((f6.now hall hls (by omega)).now hall hls (by omega)) (by rw [e])
      have n21 := n12.symm
      subst d0 d1 d2 d3
      have o1 := z1.own
      have o2 := z2.own
      have l1 : v.heap.size ≤ D1 := (hsep.bs D1 k1).1
      have l2 : v.heap.size ≤ D2 := (hsep.bs D2 k2).1
      have gv := hsep.gr
      clear f0 f1 f2 f3 f4 f5 f6 z1 z2 hall hls hsep k1 k2
      obtain ⟨u0, u1, u2, u3, u4, u5, u6, u7, u8, u9⟩ := o1.1.c10
      obtain ⟨v0, v1, v2, v3, v4, v5, v6, v7, v8, v9⟩ := o2.1.c10
      have y0 := o1.2 0
      have y1 := o1.2 1
      have y2 := o1.2 2
      have y3 := o1.2 3
      have y4 := o1.2 4
      have y5 := o1.2 5
      have y6 := o1.2 6
      have y7 := o1.2 7
      have y8 := o1.2 8
      have y9 := o1.2 9
      have q0 := o2.2 0
      have q1 := o2.2 1
      have q2 := o2.2 2
      have q3 := o2.2 3
      have q4 := o2.2 4
      have q5 := o2.2 5
      have q6 := o2.2 6
      have q7 := o2.2 7
      have q8 := o2.2 8
      have q9 := o2.2 9
      show wpList _ _ _ (List.drop 6 _) _ _
      simp only [List.drop_succ_cons, List.drop_zero]
      go_upto_region 5 with fail
      clear u0 v0 y0 q0 u1 v1 y1 q1 u2 v2 y2 q2 u3 v3 y3 q3 u4 v4 y4 q4 u5 v5 y5 q5 u6 v6 y6 q6 u7 v7 y7 q7 u8 v8 y8 q8 u9 v9 y9 q9
      refine wp_abs (fun U => Gr v U ∧ Box U D1 [.int .i64 tab, .slice pa pan.length pc, .int .i64 hei, .slice ta top.length tc, .slice ba bot.length bc, .int .i64 slo, .bool opn, .int .i64 0, .slice ta top.length tc, .slice ba bot.length bc] ∧ Box U D2 [.int .i64 tab', .slice pa' pan'.length pc', .int .i64 hei', .slice ta' top'.length tc', .slice ba' bot'.length bc', .int .i64 slo', .bool opn', .int .i64 0, .slice ta' top'.length tc', .slice ba' bot'.length bc']) ⟨((((((((((((((((((((gv.setCell (show v.heap.size ≤ D1 from l1) _).setCell (show v.heap.size ≤ D1 from l1) _).setCell (show v.heap.size ≤ D1 from l1) _).setCell (show v.heap.size ≤ D1 from l1) _).setCell (show v.heap.size ≤ D1 from l1) _).setCell (show v.heap.size ≤ D1 from l1) _).setCell (show v.heap.size ≤ D1 from l1) _).setCell (show v.heap.size ≤ D1 from l1) _).setCell (show v.heap.size ≤ D1 from l1) _).setCell (show v.heap.size ≤ D1 from l1) _).setCell (show v.heap.size ≤ D2 from l2) _).setCell (show v.heap.size ≤ D2 from l2) _).setCell (show v.heap.size ≤ D2 from l2) _).setCell (show v.heap.size ≤ D2 from l2) _).setCell (show v.heap.size ≤ D2 from l2) _).setCell (show v.heap.size ≤ D2 from l2) _).setCell (show v.heap.size ≤ D2 from l2) _).setCell (show v.heap.size ≤ D2 from l2) _).setCell (show v.heap.size ≤ D2 from l2) _).setCell (show v.heap.size ≤ D2 from l2) _), ((((((((((((((((((((o1.set (i := 0) (by simp)).set (i := 1) (by simp)).set (i := 2) (by simp)).set (i := 3) (by simp)).set (i := 4) (by simp)).set (i := 5) (by simp)).set (i := 6) (by simp)).set (i := 7) (by simp)).set (i := 8) (by simp)).set (i := 9) (by simp)).other n12).other n12).other n12).other n12).other n12).other n12).other n12).other n12).other n12).other n12).1, ((((((((((((((((((((o2.other n21).other n21).other n21).other n21).other n21).other n21).other n21).other n21).other n21).other n21).set (i := 0) (by simp)).set (i := 1) (by simp)).set (i := 2) (by simp)).set (i := 3) (by simp)).set (i := 4) (by simp)).set (i := 5) (by simp)).set (i := 6) (by simp)).set (i := 7) (by simp)).set (i := 8) (by simp)).set (i := 9) (by simp)).1⟩ ?_
      clear gv o1 o2 n12 n21 l1 l2
      rintro U ⟨gU, bX, bX'⟩
      have gg := gg.tr gU
      have hC := hC.keep gU
      have hC' := hC'.keep gU
      clear hB hB' gU
      obtain ⟨i0, hi, hz0, hz1, hz2⟩ := info_parts infoSpan
      obtain ⟨w8, hmk, hown, hgrow⟩ := run_make_own (P := Try.prog) U U.heap.size 79 38 i0 (.agg #[.int .i64 0, .int .i64 0]) 2 Try.underlying79 hi hz0 hz1 .i64 .i64 4 (by rw [hz2]; omega) (by unfold maxLen; omega) (Nat.le_refl _)
      have hgU : Gr U w8 := (Below.refl _ U).grown hgrow (Nat.le_refl _) (fun b hb' => by cases hb')
      rw [show ((4 : Nat) : Int) = 4 from rfl] at hmk
      go_wp2
      clear hgrow hmk
      refine (show (∀ s : Nat → Value, Code.wp Try.prog _ _ ⟨#[s 0, s 1, s 2, s 3, .pointer (some ⟨w.heap.size, 0, none⟩), .pointer (some ⟨(w.heap.size + 1), 0, none⟩), .pointer (some ⟨(w.heap.size + 1 + 1), 0, none⟩), .pointer (some ⟨(w.heap.size + 1 + 1 + 1), 0, none⟩), .slice none 0 0, .int .i64 0, s 10, .pointer (some ⟨D1, 0, none⟩), .pointer (some ⟨D2, 0, none⟩), _, undef, s 15, s 16, s 17, s 18, s 19, s 20, s 21, s 22, s 23, s 24, s 25, s 26, s 27, s 28, s 29, s 30, s 31, s 32, _, undef, undef, undef, undef, undef, undef, undef, undef, undef, undef, undef, undef, undef, undef, undef, undef, undef], []⟩ _) → _ from fun h => h ((fun l : List Value => fun i => l.getD i undef) [_, _, _, _, undef, undef, undef, undef, undef, undef, _, undef, undef, undef, undef, _, _, _, _, _, _, _, _, _, _, _, _, _, _, _, _, _, _])) ?_
      intro s
      dsimp only
      go_loopw [33, 13] (fun i v wr => Hid (∃ (k : Nat) (vv : Value), k ≤ 4 ∧ i = .int .i64 k ∧ v = vv ∧ Gr U wr ∧ wr.ownsRow U.heap.size 38 2 vv k ((playL hei pan top bot opn cl ch hei' pan' top' bot' opn' cl' ch' k).flatMap encS))) (fun i v wr => 4 - (intOf i).toNat)
      case atStart => exact Lib.hid ⟨0, _, Nat.zero_le _, rfl, rfl, hgU, hown⟩
      case round =>
        clear hown hgU
        obtain ⟨k, vv, hk, rfl, hvv, gV, hown⟩ := hrel.out
        obtain rfl := hvv.symm
        clear hrel
        by_cases hlt : k < 4
        · have g9 := gg.tr gV
          have k9 : k < 9 := by omega
          obtain ⟨cb0, cb1, cb2, cb3⟩ := HCB.out
          obtain ⟨cb0', cb1', cb2', cb3'⟩ := HCB'.out
          have hk1 : k + 1 ≤ maxLen := by unfold maxLen; omega
          have hk2 : (k + 1) * 16 ≤ 140737488355328 := by omega
          go_upto_region 9 with fail
          have bX1 := bX.keep gV
          have bX1' := bX'.keep gV
          have bC1 := hC.keep gV
          have bC1' := hC'.keep gV
          refine wp_region_inv' 12 [(4, 1), (4, 2), (4, 3), (7, 5), (7, 6), (9, 7), (9, 8), (10, 4), (10, 9), (11, 10)] (fun a0 listed a v => ∃ (r : Nat → Value) (t36 t37 t38 t39 t40 t41 t42 t43 t44 t45 t46 t47 : Value), a = ⟨#[s 0, s 1, s 2, s 3, .pointer (some ⟨w.heap.size, 0, none⟩), .pointer (some ⟨(w.heap.size + 1), 0, none⟩), .pointer (some ⟨(w.heap.size + 1 + 1), 0, none⟩), .pointer (some ⟨(w.heap.size + 1 + 1 + 1), 0, none⟩), .slice none 0 0, .int .i64 0, s 10, .pointer (some ⟨D1, 0, none⟩), .pointer (some ⟨D2, 0, none⟩), vv, .int .i64 k, s 15, s 16, s 17, s 18, s 19, s 20, s 21, s 22, s 23, s 24, s 25, s 26, s 27, s 28, s 29, s 30, s 31, s 32, .int .i64 k, r 34, r 35, t36, t37, t38, t39, t40, t41, t42, t43, t44, t45, t46, t47, r 48, r 49, undef], []⟩ ∧ Gr wr v ∧ Fact listed 0 (t36 = vv) ∧ Fact listed 1 (t37 = .agg #[.int .i64 tab, .slice pa pan.length pc, .int .i64 hei, .slice ta top.length tc, .slice ba bot.length bc, .int .i64 slo, .bool opn, .int .i64 0, .slice ta top.length tc, .slice ba bot.length bc]) ∧ Fact listed 2 (t38 = .int .i64 k) ∧ Fact listed 3 (t39 = .agg #[.int .i64 cl, .int .i64 ch]) ∧ Fact listed 4 (t40 = .agg #[.int .i64 (innerAt 0 hei pan top bot opn cl ch k).lo, .int .i64 (innerAt 0 hei pan top bot opn cl ch k).hi]) ∧ Fact listed 5 (t41 = .agg #[.int .i64 tab', .slice pa' pan'.length pc', .int .i64 hei', .slice ta' top'.length tc', .slice ba' bot'.length bc', .int .i64 slo', .bool opn', .int .i64 0, .slice ta' top'.length tc', .slice ba' bot'.length bc']) ∧ Fact listed 6 (t42 = .int .i64 k) ∧ Fact listed 7 (t43 = .agg #[.int .i64 (flatAt 0 hei' pan' top' bot' opn' k).lo, .int .i64 (flatAt 0 hei' pan' top' bot' opn' k).hi]) ∧ Fact listed 8 (t44 = .agg #[.int .i64 cl', .int .i64 ch']) ∧ Fact listed 9 (CSp [flatAt 0 hei' pan' top' bot' opn' k, ⟨cl', ch'⟩] v t45) ∧ Fact listed 10 (t46 = .agg #[.int .i64 (playAt hei pan top bot opn cl ch hei' pan' top' bot' opn' cl' ch' k).lo, .int .i64 (playAt hei pan top bot opn cl ch hei' pan' top' bot' opn' cl' ch' k).hi]) ∧ Fact listed 11 (COne (playAt hei pan top bot opn cl ch hei' pan' top' bot' opn' cl' ch' k).lo (playAt hei pan top bot opn cl ch hei' pan' top' bot' opn' cl' ch' k).hi v t47)) (by kernel_rfl) (by kernel_rfl) (by kernel_rfl) ?init9 ?step9 ?fin9
          case init9 => exact ⟨(fun l : List Value => fun i => l.getD i undef) [undef, undef, undef, undef, undef, undef, undef, undef, undef, undef, undef, undef, undef, undef, undef, undef, undef, undef, undef, undef, undef, undef, undef, undef, undef, undef, undef, undef, undef, undef, undef, undef, undef, undef, _, _, undef, undef, undef, undef, undef, undef, undef, undef, undef, undef, undef, undef, _, _], _, _, _, _, _, _, _, _, _, _, _, _, by rfl, Gr.dr wr, Fact.no _ _ _, Fact.no _ _ _, Fact.no _ _ _, Fact.no _ _ _, Fact.no _ _ _, Fact.no _ _ _, Fact.no _ _ _, Fact.no _ _ _, Fact.no _ _ _, Fact.no _ _ _, Fact.no _ _ _, Fact.no _ _ _⟩
          case step9 =>
            rintro i hi listed a v hun hdep ⟨r, t36, t37, t38, t39, t40, t41, t42, t43, t44, t45, t46, t47, rfl, gv, f0, f1, f2, f3, f4, f5, f6, f7, f8, f9, f10, f11⟩
            have hi8 : i = 0 ∨ i = 1 ∨ i = 2 ∨ i = 3 ∨ i = 4 ∨ i = 5 ∨ i = 6 ∨ i = 7 ∨ i = 8 ∨ i = 9 ∨ i = 10 ∨ i = 11 := by omega
            rcases hi8 with rfl | rfl | rfl | rfl | rfl | rfl | rfl | rfl | rfl | rfl | rfl | rfl
            · clear hdep
              refine wpOp_step rfl (fun K' hK => ?_)
              go_simp
              exact hK _ _ ⟨r, _, t37, t38, t39, t40, t41, t42, t43, t44, t45, t46, t47, by rfl, gv, Fact.lay (rfl), f1.keep (by decide), f2.keep (by decide), f3.keep (by decide), f4.keep (by decide), f5.keep (by decide), f6.keep (by decide), f7.keep (by decide), f8.keep (by decide), f9.keep (by decide), f10.keep (by decide), f11.keep (by decide)⟩
            · clear hdep
              refine wpOp_step rfl (fun K' hK => ?_)
              rw [if_pos (by rfl)]
              refine wp_load_mid 124 _ rfl D1 0 (by rfl) [.int .i64 tab, .slice pa pan.length pc, .int .i64 hei, .slice ta top.length tc, .slice ba bot.length bc, .int .i64 slo, .bool opn, .int .i64 0, .slice ta top.length tc, .slice ba bot.length bc] _ (fun j u hu => by rw [Nat.zero_add]; exact (bX1.keep gv).2 j u hu) Try.underlying124 rfl (by kernel_rfl) ?_
              exact hK _ _ ⟨r, t36, _, t38, t39, t40, t41, t42, t43, t44, t45, t46, t47, by rfl, gv, f0.keep (by decide), Fact.lay (rfl), f2.keep (by decide), f3.keep (by decide), f4.keep (by decide), f5.keep (by decide), f6.keep (by decide), f7.keep (by decide), f8.keep (by decide), f9.keep (by decide), f10.keep (by decide), f11.keep (by decide)⟩
            · clear hdep
              refine wpOp_step rfl (fun K' hK => ?_)
              go_simp
              exact hK _ _ ⟨r, t36, t37, _, t39, t40, t41, t42, t43, t44, t45, t46, t47, by rfl, gv, f0.keep (by decide), f1.keep (by decide), Fact.lay (rfl), f3.keep (by decide), f4.keep (by decide), f5.keep (by decide), f6.keep (by decide), f7.keep (by decide), f8.keep (by decide), f9.keep (by decide), f10.keep (by decide), f11.keep (by decide)⟩
            · clear hdep
              refine wpOp_step rfl (fun K' hK => ?_)
              rw [if_pos (by rfl)]
              refine wp_load_mid 38 _ rfl (w.heap.size + 1 + 1) 0 (by rfl) [.int .i64 cl, .int .i64 ch] _ (fun j u hu => by rw [Nat.zero_add]; exact (bC1.keep gv).2 j u hu) Try.underlying38 rfl (by kernel_rfl) ?_
              exact hK _ _ ⟨r, t36, t37, t38, _, t40, t41, t42, t43, t44, t45, t46, t47, by rfl, gv, f0.keep (by decide), f1.keep (by decide), f2.keep (by decide), Fact.lay (rfl), f4.keep (by decide), f5.keep (by decide), f6.keep (by decide), f7.keep (by decide), f8.keep (by decide), f9.keep (by decide), f10.keep (by decide), f11.keep (by decide)⟩
            · have d1 := f1 (hdep 1 (by simp))
              have d2 := f2 (hdep 2 (by simp))
              have d3 := f3 (hdep 3 (by simp))
              subst d1 d2 d3
              clear hdep
              refine wpOp_step rfl (fun K' hK => ?_)
              go_simp
              refine (inside_all _ _ _ 0 _ _ _ _ _ _ _ _ _ _ cl ch HG.out (by omega) (by omega) cb0 cb1 cb2 cb3 k k9 v (hp.grow (g9.tr gv)) (ht.grow (g9.tr gv)) (hb.grow (g9.tr gv))).mono ?_
              rintro e v' ⟨rfl, hg⟩
              exact hK _ _ ⟨r, t36, _, _, _, _, t41, t42, t43, t44, t45, t46, t47, by rfl, gv.tr hg, f0.keep (by decide), f1.keep (by decide), f2.keep (by decide), f3.keep (by decide), Fact.lay (rfl), f5.keep (by decide), f6.keep (by decide), f7.keep (by decide), f8.keep (by decide), (f9.keep (by decide)).map (fun h => h.up hg), f10.keep (by decide), (f11.keep (by decide)).map (fun h => h.up hg)⟩
            · clear hdep
              refine wpOp_step rfl (fun K' hK => ?_)
              rw [if_pos (by rfl)]
              refine wp_load_mid 124 _ rfl D2 0 (by rfl) [.int .i64 tab', .slice pa' pan'.length pc', .int .i64 hei', .slice ta' top'.length tc', .slice ba' bot'.length bc', .int .i64 slo', .bool opn', .int .i64 0, .slice ta' top'.length tc', .slice ba' bot'.length bc'] _ (fun j u hu => by rw [Nat.zero_add]; exact (bX1'.keep gv).2 j u hu) Try.underlying124 rfl (by kernel_rfl) ?_
              exact hK _ _ ⟨r, t36, t37, t38, t39, t40, _, t42, t43, t44, t45, t46, t47, by rfl, gv, f0.keep (by decide), f1.keep (by decide), f2.keep (by decide), f3.keep (by decide), f4.keep (by decide), Fact.lay (rfl), f6.keep (by decide), f7.keep (by decide), f8.keep (by decide), f9.keep (by decide), f10.keep (by decide), f11.keep (by decide)⟩
            · clear hdep
              refine wpOp_step rfl (fun K' hK => ?_)
              go_simp
              exact hK _ _ ⟨r, t36, t37, t38, t39, t40, t41, _, t43, t44, t45, t46, t47, by rfl, gv, f0.keep (by decide), f1.keep (by decide), f2.keep (by decide), f3.keep (by decide), f4.keep (by decide), f5.keep (by decide), Fact.lay (rfl), f7.keep (by decide), f8.keep (by decide), f9.keep (by decide), f10.keep (by decide), f11.keep (by decide)⟩
            · have d5 := f5 (hdep 5 (by simp))
              have d6 := f6 (hdep 6 (by simp))
              subst d5 d6
              clear hdep
              refine wpOp_step rfl (fun K' hK => ?_)
              go_simp
              refine (flat_all _ _ _ 0 _ _ _ _ _ _ _ _ _ _ HG'.out (by omega) (by omega) k k9 v (hp'.grow (g9.tr gv)) (ht'.grow (g9.tr gv)) (hb'.grow (g9.tr gv))).mono ?_
              rintro e v' ⟨rfl, hg⟩
              exact hK _ _ ⟨r, t36, t37, t38, t39, t40, _, _, _, t44, t45, t46, t47, by rfl, gv.tr hg, f0.keep (by decide), f1.keep (by decide), f2.keep (by decide), f3.keep (by decide), f4.keep (by decide), f5.keep (by decide), f6.keep (by decide), Fact.lay (rfl), f8.keep (by decide), (f9.keep (by decide)).map (fun h => h.up hg), f10.keep (by decide), (f11.keep (by decide)).map (fun h => h.up hg)⟩
            · clear hdep
              refine wpOp_step rfl (fun K' hK => ?_)
              rw [if_pos (by rfl)]
              refine wp_load_mid 38 _ rfl (w.heap.size + 1 + 1 + 1) 0 (by rfl) [.int .i64 cl', .int .i64 ch'] _ (fun j u hu => by rw [Nat.zero_add]; exact (bC1'.keep gv).2 j u hu) Try.underlying38 rfl (by kernel_rfl) ?_
              exact hK _ _ ⟨r, t36, t37, t38, t39, t40, t41, t42, t43, _, t45, t46, t47, by rfl, gv, f0.keep (by decide), f1.keep (by decide), f2.keep (by decide), f3.keep (by decide), f4.keep (by decide), f5.keep (by decide), f6.keep (by decide), f7.keep (by decide), Fact.lay (rfl), f9.keep (by decide), f10.keep (by decide), f11.keep (by decide)⟩
            · have d7 := f7 (hdep 7 (by simp))
              have d8 := f8 (hdep 8 (by simp))
              subst d7 d8
              clear hdep
              refine wpOp_step rfl (fun K' hK => ?_)
              go_simp
              have hg := Gr.al v (.cells #[.int .i64 (flatAt 0 hei' pan' top' bot' opn' k).lo, .int .i64 (flatAt 0 hei' pan' top' bot' opn' k).hi, .int .i64 cl', .int .i64 ch'] 38)
              exact hK _ _ ⟨r, t36, t37, t38, t39, t40, t41, t42, _, _, _, t46, t47, by rfl, gv.tr hg, f0.keep (by decide), f1.keep (by decide), f2.keep (by decide), f3.keep (by decide), f4.keep (by decide), f5.keep (by decide), f6.keep (by decide), f7.keep (by decide), f8.keep (by decide), Fact.lay (⟨_, _, rfl, SRow.new2 v 38 (flatAt 0 hei' pan' top' bot' opn' k).lo (flatAt 0 hei' pan' top' bot' opn' k).hi cl' ch' v.heap.size rfl⟩), f10.keep (by decide), (f11.keep (by decide)).map (fun h => h.up hg)⟩
            · have d4 := f4 (hdep 4 (by simp))
              obtain ⟨a9, c9, rfl, r9⟩ := f9 (hdep 9 (by simp))
              subst d4
              clear hdep
              refine wpOp_step rfl (fun K' hK => ?_)
              go_simp
              refine (less_any (innerAt 0 hei pan top bot opn cl ch k) [flatAt 0 hei' pan' top' bot' opn' k, ⟨cl', ch'⟩] (by simp) (inner_bd HG.out cb0 cb1 cb2 cb3 k9) (two_bd (flat_bd (off := 0) HG'.out (by omega) (by omega) k9) cb0' cb1' cb2' cb3') _ _ v r9).mono ?_
              rintro e v' ⟨rfl, hg⟩
              exact hK _ _ ⟨r, t36, t37, t38, t39, _, t41, t42, t43, t44, _, _, t47, by rfl, gv.tr hg, f0.keep (by decide), f1.keep (by decide), f2.keep (by decide), f3.keep (by decide), f4.keep (by decide), f5.keep (by decide), f6.keep (by decide), f7.keep (by decide), f8.keep (by decide), (f9.keep (by decide)).map (fun h => h.up hg), Fact.lay (rfl), (f11.keep (by decide)).map (fun h => h.up hg)⟩
            · have d10 := f10 (hdep 10 (by simp))
              subst d10
              clear hdep
              refine wpOp_step rfl (fun K' hK => ?_)
              go_simp
              have hg := Gr.al v (.cells #[.int .i64 (playAt hei pan top bot opn cl ch hei' pan' top' bot' opn' cl' ch' k).lo, .int .i64 (playAt hei pan top bot opn cl ch hei' pan' top' bot' opn' cl' ch' k).hi] 38)
              exact hK _ _ ⟨r, t36, t37, t38, t39, t40, t41, t42, t43, t44, t45, _, _, by rfl, gv.tr hg, f0.keep (by decide), f1.keep (by decide), f2.keep (by decide), f3.keep (by decide), f4.keep (by decide), f5.keep (by decide), f6.keep (by decide), f7.keep (by decide), f8.keep (by decide), (f9.keep (by decide)).map (fun h => h.up hg), f10.keep (by decide), Fact.lay (⟨_, rfl, by simp, Box.new v [.int .i64 (playAt hei pan top bot opn cl ch hei' pan' top' bot' opn' cl' ch' k).lo, .int .i64 (playAt hei pan top bot opn cl ch hei' pan' top' bot' opn' cl' ch' k).hi] 38 v.heap.size rfl⟩)⟩
          case fin9 =>
            rintro listed a v hls hall ⟨r, t36, t37, t38, t39, t40, t41, t42, t43, t44, t45, t46, t47, rfl, gv, f0, f1, f2, f3, f4, f5, f6, f7, f8, f9, f10, f11⟩
            have d0 := f0.now hall hls (by omega)
            obtain ⟨R1, rfl, hR1, bR⟩ := f11.now hall hls (by omega)
            subst d0
            clear f0 f1 f2 f3 f4 f5 f6 f7 f8 f9 f10 f11 hall hls bX1 bX1' bC1 bC1'
            show wpList _ _ _ (List.drop 12 _) _ _
            simp only [List.drop_succ_cons, List.drop_zero]
            go_wp2_with (at_builtin; refine wpList_append_own _ rfl _ _ 79 rfl U.heap.size 38 i0 (.agg #[.int .i64 0, .int .i64 0]) 2 16 Try.underlying79 hi hz0 hz1 hz2 rfl (by decide) _ _ _ rfl (owns_keep hown gv) ⟨R1, 0, none⟩ 1 1 ([(playAt hei pan top bot opn cl ch hei' pan' top' bot' opn' cl' ch' k).lo, (playAt hei pan top bot opn cl ch hei' pan' top' bot' opn' cl' ch' k).hi].map (fun n => Value.int .i64 n)) rfl rfl bR.news (ints_one _) hk1 hk2 (gV.tr gv).size ?_; intro v' w6 hown' hgrow' _)
            go_roundw
            case rel =>
              have hR : Gr U w6 := (gV.tr gv).grown' (owns_keep hown gv) (Nat.le_refl _) hgrow'
              have hl : w6.ownsRow U.heap.size 38 2 v' (k + 1) ((playL hei pan top bot opn cl ch hei' pan' top' bot' opn' cl' ch' (k + 1)).flatMap encS) := by
                unfold playL
                rw [List.range_succ, List.map_append, List.map_singleton, flat_snoc]
                exact hown'
              first
                | exact Lib.hid ⟨k + 1, _, by omega, by go_num, rfl, hR, hl⟩
                | exact Lib.hid ⟨k + 1, _, by omega, rfl, rfl, hR, hl⟩
            case measure => simp [intOf]; omega
        · obtain rfl : k = 4 := by omega
          have hlen : (playL hei pan top bot opn cl ch hei' pan' top' bot' opn' cl' ch' 4).length = 4 := by simp [playL]
          obtain ⟨a, cap, hv, hr⟩ := owns_row (enc := encS) (l := playL hei pan top bot opn cl ch hei' pan' top' bot' opn' cl' ch' 4) (fun _ => rfl) (by rw [hlen]; omega) (by rw [hlen]; exact hown)
          subst hv
          have Hr := Lib.hid hr
          clear hr hlen
          go_wp2
          go_ret2
          exact ⟨a, cap, rfl, gg.tr gV, Hr.out⟩

end Go.Proofs.Ytaommdjekddgiaa
