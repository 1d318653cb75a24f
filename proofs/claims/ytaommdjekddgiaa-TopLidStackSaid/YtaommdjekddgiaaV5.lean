/- Contract of Holds, of a valid blank and a thing. -/
import Derived.Test.YtaommdjekddgiaaV3
namespace Go.Proofs.Ytaommdjekddgiaa
set_option linter.unusedVariables false
set_option linter.unusedSimpArgs false
open Go.RowKit

theorem within_three (l : List Int) (hl : l.length = 3) (hd : inB 0 3000 l = true) (a : Option Addr) (cap : Nat) (w : World) (hr : IRow w a l) :
    Calls Try.prog 47 #[.int .i64 0, .int .i64 3000, .slice a 3 cap] w fun e w' => e = .returned (.bool true) ∧ Gr w w' := by
  have h := within_any 0 3000 l true hd a cap w hr
  rw [hl] at h
  exact h

theorem fits_three (tab hei slo : Int) (pan top bot : List Int) (pa ta ba : Option Addr) (pc tc bc : Nat) (opn : Bool) (c : Int) (thing : List Int) (G : GoodB tab hei slo pan top bot opn) (c0 : 0 ≤ c) (c1 : c ≤ 10000) (hl : thing.length = 3) (hth : ∀ x ∈ thing, 0 ≤ x ∧ x ≤ 3000) (td : Option Addr) (tcap : Nat) (w : World)
    (hp : IRow w pa pan) (ht : IRow w ta top) (hb : IRow w ba bot) (htd : IRow w td thing) :
    Calls Try.prog 61 #[.agg #[.int .i64 tab, .slice pa pan.length pc, .int .i64 hei, .slice ta top.length tc, .slice ba bot.length bc, .int .i64 slo, .bool opn, .int .i64 0, .slice ta top.length tc, .slice ba bot.length bc], .slice td 3 tcap, .int .i64 c] w fun e w' => e = .returned (.bool (fitsL thing (fitsBox 0 hei pan top bot opn c))) ∧ Gr w w' := by
  have h := fits_any tab hei slo 0 pan top bot pa ta ba pc tc bc opn c thing G (by omega) (by omega) c0 c1 hl hth td tcap w hp ht hb htd
  rw [hl] at h
  exact h

set_option maxRecDepth 100000 in
set_option maxHeartbeats 4000000 in
theorem holds_ok (tab hei slo : Int) (pan top bot : List Int) (pa ta ba : Option Addr) (pc tc bc : Nat) (opn : Bool) (cl ch : Int) (thing : List Int) (G : GoodB tab hei slo pan top bot opn) (hc : okSpan 1 10000 cl ch = true) (hl : thing.length = 3) (hth : inB 0 3000 thing = true) (td : Option Addr) (tcap : Nat) (w : World) (hp : IRow w pa pan) (ht : IRow w ta top) (hb : IRow w ba bot) (htd : IRow w td thing) :
    Calls Try.prog 29 #[.agg #[.int .i64 tab, .slice pa pan.length pc, .int .i64 hei, .slice ta top.length tc, .slice ba bot.length bc, .int .i64 slo, .bool opn], .agg #[.int .i64 cl, .int .i64 ch], .slice td thing.length tcap] w fun e w' => e = .returned (.tuple #[.bool (fitsL thing (fitsBox 0 hei pan top bot opn ch)), .bool (fitsL thing (fitsBox 0 hei pan top bot opn cl)), .int .i64 0]) ∧ Gr w w' := by
  have gg := (Gr.al w (.cells #[.int .i64 tab, .slice pa pan.length pc, .int .i64 hei, .slice ta top.length tc, .slice ba bot.length bc, .int .i64 slo, .bool opn] 58)).tr (Gr.al _ (.cells #[.int .i64 cl, .int .i64 ch] 38))
  have hB := (Box.new w [.int .i64 tab, .slice pa pan.length pc, .int .i64 hei, .slice ta top.length tc, .slice ba bot.length bc, .int .i64 slo, .bool opn] 58 w.heap.size rfl).keep (Gr.al _ (.cells #[.int .i64 cl, .int .i64 ch] 38))
  have hC := Box.new (w.alloc (.cells #[.int .i64 tab, .slice pa pan.length pc, .int .i64 hei, .slice ta top.length tc, .slice ba bot.length bc, .int .i64 slo, .bool opn] 58)) [.int .i64 cl, .int .i64 ch] 38 (w.heap.size + 1) (by simp)
  have HG := Lib.hid G
  have HTH := Lib.hid hth
  have HT : Hid (∀ x ∈ thing, 0 ≤ x ∧ x ≤ 3000) := Lib.hid (fun x hx => by
    obtain ⟨k, hk⟩ := List.getElem?_of_mem hx
    exact in_at hth hk)
  have HL := Lib.hid hl
  have hcb : 0 ≤ cl ∧ cl ≤ 10000 ∧ 0 ≤ ch ∧ ch ≤ 10000 := by
    simp only [okSpan, inB, in1, List.all_cons, List.all_nil, Bool.and_true, Bool.and_eq_true, decide_eq_true_eq] at hc
    omega
  have hcs : ([⟨cl, ch⟩] : List Sp).all (okSp 1 10000) = true := by simpa [okSp] using hc
  have HCS := Lib.hid hcs
  obtain ⟨cb0, cb1, cb2, cb3⟩ := hcb
  clear G hc hcs hth
  go_enter Try.func29, Try.ntmps29
  go_wp2
  refine wp_abs (fun W => Gr w W ∧ Box W w.heap.size [.int .i64 tab, .slice pa pan.length pc, .int .i64 hei, .slice ta top.length tc, .slice ba bot.length bc, .int .i64 slo, .bool opn] ∧ Box W (w.heap.size + 1) [.int .i64 cl, .int .i64 ch]) ⟨gg, hB, hC⟩ ?_
  clear gg hB hC
  rintro W ⟨gg, hB, hC⟩
  have gX := Gr.dr W
  have gA := (Gr.al W (.cells #[.int .i64 cl, .int .i64 ch] 38)).tr (Gr.dr _)
  have rA := (SRow.new1 W 38 cl ch W.heap.size rfl).grow (Gr.dr _)
  obtain ⟨f0, f1, f2, f3, f4, f5, f6⟩ := (hB.keep gA).c7
  obtain ⟨p0, p1⟩ := (hC.keep gA).c2
  obtain ⟨e0, e1, e2, e3, e4, e5, e6⟩ := (hB.keep gX).c7
  obtain ⟨q0, q1⟩ := (hC.keep gX).c2
  go_region_held3 (fun w' => w'.cell? ⟨w.heap.size + 1, 0, none⟩ = some (.int .i64 cl) ∧ w'.cell? ⟨w.heap.size + 1, 1, none⟩ = some (.int .i64 ch) ∧ w'.cell? ⟨w.heap.size, 0, none⟩ = some (.int .i64 tab) ∧ w'.cell? ⟨w.heap.size, 1, none⟩ = some (.slice pa pan.length pc) ∧ w'.cell? ⟨w.heap.size, 2, none⟩ = some (.int .i64 hei) ∧ w'.cell? ⟨w.heap.size, 3, none⟩ = some (.slice ta top.length tc) ∧ w'.cell? ⟨w.heap.size, 4, none⟩ = some (.slice ba bot.length bc) ∧ w'.cell? ⟨w.heap.size, 5, none⟩ = some (.int .i64 slo) ∧ w'.cell? ⟨w.heap.size, 6, none⟩ = some (.bool opn)) (first | exact ⟨q0, q1, e0, e1, e2, e3, e4, e5, e6⟩ | exact ⟨p0, p1, f0, f1, f2, f3, f4, f5, f6⟩ | go_keep) (first
    | (go_at_call 51; (refine (checkB_ok _ _ _ _ _ _ _ _ _ _ _ _ _ HG.out _ ?_ ?_ ?_).mono ?_); (first | exact hp.grow (gg.tr gX) | exact hp.grow (gg.tr gA)); (first | exact ht.grow (gg.tr gX) | exact ht.grow (gg.tr gA)); (first | exact hb.grow (gg.tr gX) | exact hb.grow (gg.tr gA)); rintro e w3 ⟨rfl, hx⟩; have g3 : Gr _ w3 := (by first | exact gX.tr hx | exact gA.tr hx); (obtain ⟨e0, e1, e2, e3, e4, e5, e6⟩ := (hB.keep g3).c7); obtain ⟨q0, q1⟩ := (hC.keep g3).c2)
    | (go_at_call 46; (refine (measured_ok [⟨cl, ch⟩] HCS.out _ _ _ ?_).mono ?_); (first | exact SRow.new1 _ _ _ _ _ rfl | exact rA.grow hx); rintro e w4 ⟨rfl, hy⟩; have g4 : Gr _ w4 := (by first | exact g3.tr hy | exact g3.tr ((Gr.al _ _).tr hy)); (obtain ⟨e0, e1, e2, e3, e4, e5, e6⟩ := (hB.keep g4).c7); obtain ⟨q0, q1⟩ := (hC.keep g4).c2)
    | (go_at_call 44; (refine (first_two _ _ _ (zeros_row2 _ _)).mono ?_); rintro e w6 ⟨rfl, hv⟩; have g6 := g4.tr ((Gr.al _ _).tr hv); (obtain ⟨e0, e1, e2, e3, e4, e5, e6⟩ := (hB.keep g6).c7); obtain ⟨q0, q1⟩ := (hC.keep g6).c2))
  all_goals
    have gW := gg.tr g6
    have bB := hB.keep g6
    have bC := hC.keep g6
    clear e0 e1 e2 e3 e4 e5 e6 q0 q1 p0 p1 f0 f1 f2 f3 f4 f5 f6 gA rA hx hy hv g3 g4 g6 gX gg hB hC
    obtain ⟨e0, e1, e2, e3, e4, e5, e6⟩ := bB.c7
    go_wp2_with (first
      | (go_at_call 47; (refine (within_three thing HL.out HTH.out _ _ _ (htd.grow gW)).mono ?_); rintro e w7 ⟨rfl, hg⟩; replace gW := gW.tr hg; replace bB := bB.keep hg; replace bC := bC.keep hg; clear e0 e1 e2 e3 e4 e5 e6; (obtain ⟨e0, e1, e2, e3, e4, e5, e6⟩ := bB.c7))
      | (go_at_call 48; (refine (layS_any _ _ _ _ _ _ _ _ _ _ _ _ _ _ _).mono ?_); rintro e w8 ⟨rfl, hx⟩; replace gW := gW.tr hx; replace bC := bC.keep hx))
    have gV := Gr.al w8 (.cells #[.int .i64 tab, .slice pa pan.length pc, .int .i64 hei, .slice ta top.length tc, .slice ba bot.length bc, .int .i64 slo, .bool opn, .int .i64 0, .slice ta top.length tc, .slice ba bot.length bc] 124)
    have bX := Box.new w8 [.int .i64 tab, .slice pa pan.length pc, .int .i64 hei, .slice ta top.length tc, .slice ba bot.length bc, .int .i64 slo, .bool opn, .int .i64 0, .slice ta top.length tc, .slice ba bot.length bc] 124 w8.heap.size rfl
    have gW9 := gW.tr gV
    have bC9 := bC.keep gV
    clear e0 e1 e2 e3 e4 e5 e6 bB bC gW
    refine wp_abs (fun V => Gr w V ∧ Box V w8.heap.size [.int .i64 tab, .slice pa pan.length pc, .int .i64 hei, .slice ta top.length tc, .slice ba bot.length bc, .int .i64 slo, .bool opn, .int .i64 0, .slice ta top.length tc, .slice ba bot.length bc] ∧ Box V (w.heap.size + 1) [.int .i64 cl, .int .i64 ch]) ⟨gW9, bX, bC9⟩ ?_
    clear gW9 bX bC9 gV
    rintro V ⟨gV, bX, bC⟩
    have gX := Gr.dr V
    have tok1 : True := trivial
    obtain ⟨e0, e1, e2, e3, e4, e5, e6, e7, e8, e9⟩ := (bX.keep gX).c10
    obtain ⟨q0, q1⟩ := (bC.keep gX).c2
    go_region_held3 (fun w' => w'.cell? ⟨w.heap.size + 1, 0, none⟩ = some (.int .i64 cl) ∧ w'.cell? ⟨w.heap.size + 1, 1, none⟩ = some (.int .i64 ch) ∧ w'.cell? ⟨w8.heap.size, 0, none⟩ = some (.int .i64 tab) ∧ w'.cell? ⟨w8.heap.size, 1, none⟩ = some (.slice pa pan.length pc) ∧ w'.cell? ⟨w8.heap.size, 2, none⟩ = some (.int .i64 hei) ∧ w'.cell? ⟨w8.heap.size, 3, none⟩ = some (.slice ta top.length tc) ∧ w'.cell? ⟨w8.heap.size, 4, none⟩ = some (.slice ba bot.length bc) ∧ w'.cell? ⟨w8.heap.size, 5, none⟩ = some (.int .i64 slo) ∧ w'.cell? ⟨w8.heap.size, 6, none⟩ = some (.bool opn) ∧ w'.cell? ⟨w8.heap.size, 7, none⟩ = some (.int .i64 0) ∧ w'.cell? ⟨w8.heap.size, 8, none⟩ = some (.slice ta top.length tc) ∧ w'.cell? ⟨w8.heap.size, 9, none⟩ = some (.slice ba bot.length bc)) (first | exact ⟨q0, q1, e0, e1, e2, e3, e4, e5, e6, e7, e8, e9⟩ | go_keep) (first
      | (go_at_call 61; have _t := tok1; clear tok1 _t; (refine (fits_three _ _ _ _ _ _ _ _ _ _ _ _ _ ch thing HG.out cb2 cb3 HL.out HT.out _ _ _ (hp.grow (gV.tr gX)) (ht.grow (gV.tr gX)) (hb.grow (gV.tr gX)) (htd.grow (gV.tr gX))).mono ?_); rintro e w10 ⟨rfl, hy⟩; replace gX := gX.tr hy; (obtain ⟨e0, e1, e2, e3, e4, e5, e6, e7, e8, e9⟩ := (bX.keep gX).c10); obtain ⟨q0, q1⟩ := (bC.keep gX).c2)
      | (go_at_call 61; (refine (fits_three _ _ _ _ _ _ _ _ _ _ _ _ _ cl thing HG.out cb0 cb1 HL.out HT.out _ _ _ (hp.grow (gV.tr gX)) (ht.grow (gV.tr gX)) (hb.grow (gV.tr gX)) (htd.grow (gV.tr gX))).mono ?_); rintro e w10 ⟨rfl, hy⟩; replace gX := gX.tr hy; (obtain ⟨e0, e1, e2, e3, e4, e5, e6, e7, e8, e9⟩ := (bX.keep gX).c10); obtain ⟨q0, q1⟩ := (bC.keep gX).c2))
    all_goals
      go_wp2
      refine bodyPost_ret (v := .tuple #[.bool (fitsL thing (fitsBox 0 hei pan top bot opn ch)), .bool (fitsL thing (fitsBox 0 hei pan top bot opn cl)), .int .i64 0]) (by simp [results, Try.results29, go_sem]) rfl ⟨rfl, ?_⟩
      exact gV.tr gX

end Go.Proofs.Ytaommdjekddgiaa
