/- Contract of Inner, of a valid blank. -/
import Derived.Test.YtbohjmogpiaejaaS7
import Derived.Test.YtbohjmogpiaejaaA4
namespace Go.Proofs.Ytbohjmogpiaejaa
set_option linter.unusedVariables false
set_option linter.unusedSimpArgs false
open Go.RowKit

theorem infoSpan : (Try.prog.info? 43).map (fun i => (i.zero, i.size, i.bytes)) = some (some (.agg #[.int .i64 0, .int .i64 0]), 2, 16) := by kernel_rfl

def innerL (off hei : Int) (pan top bot : List Int) (opn : Bool) (cl ch : Int) (n : Nat) : List Sp := (List.range n).map (innerAt off hei pan top bot opn cl ch)

/-- A list of spans is handed back, and no error. -/
def SpansPost (l : List Sp) (w : World) (e : Ending) (w' : World) : Prop := ∃ a cap, e = .returned (.tuple #[.slice a l.length cap, .int .i64 0]) ∧ Gr w w' ∧ SRow w' a l

theorem zeros3 : ∀ x ∈ ([0, 0, 0] : List Int), x = 0 := by simp
theorem zeros2 : ∀ x ∈ ([0, 0] : List Int), x = 0 := by simp

theorem first_three (ad : Option Addr) (cap : Nat) (w : World) (hr : IRow w ad [0, 0, 0]) :
    Calls Try.prog 26 #[.slice ad 3 cap] w fun e w' => e = .returned (.int .i64 0) ∧ Gr w w' :=
  (first_ok [0, 0, 0] zeros3 ad cap w hr).mono fun _ _ ⟨he, hw⟩ => ⟨he, hw ▸ Below.refl _ _⟩
theorem first_two (ad : Option Addr) (cap : Nat) (w : World) (hr : IRow w ad [0, 0]) :
    Calls Try.prog 26 #[.slice ad 2 cap] w fun e w' => e = .returned (.int .i64 0) ∧ Gr w w' :=
  (first_ok [0, 0] zeros2 ad cap w hr).mono fun _ _ ⟨he, hw⟩ => ⟨he, hw ▸ Below.refl _ _⟩
theorem zeros_row (w : World) (t : TypeId) : IRow (w.alloc (.cells #[.int .i64 0, .int .i64 0, .int .i64 0] t)) (some ⟨w.heap.size, 0, none⟩) [0, 0, 0] := IRow.new w t [0, 0, 0] (by simp)
theorem zeros_row2 (w : World) (t : TypeId) : IRow (w.alloc (.cells #[.int .i64 0, .int .i64 0] t)) (some ⟨w.heap.size, 0, none⟩) [0, 0] := IRow.new w t [0, 0] (by simp)

set_option maxRecDepth 100000 in
set_option maxHeartbeats 4000000 in
theorem inner_ok (tab hei slo off : Int) (pan top bot : List Int) (pa ta ba : Option Addr) (pc tc bc : Nat) (opn : Bool) (cl ch : Int) (G : GoodB tab hei slo pan top bot opn) (hoff : inB 0 5 [off] = true) (hc : okSpan 1 10000 cl ch = true) (w : World) (hp : IRow w pa pan) (ht : IRow w ta top) (hb : IRow w ba bot) :
    Calls Try.prog 12 #[.agg #[.int .i64 tab, .slice pa pan.length pc, .int .i64 hei, .slice ta top.length tc, .slice ba bot.length bc, .int .i64 slo, .bool opn], .agg #[.int .i64 cl, .int .i64 ch], .int .i64 off] w (SpansPost (innerL off hei pan top bot opn cl ch 9) w) := by
  have gg := (Gr.al w (.cells #[.int .i64 tab, .slice pa pan.length pc, .int .i64 hei, .slice ta top.length tc, .slice ba bot.length bc, .int .i64 slo, .bool opn] 40)).tr (Gr.al _ (.cells #[.int .i64 cl, .int .i64 ch] 43))
  have hB := (Box.new w [.int .i64 tab, .slice pa pan.length pc, .int .i64 hei, .slice ta top.length tc, .slice ba bot.length bc, .int .i64 slo, .bool opn] 40 w.heap.size rfl).keep (Gr.al _ (.cells #[.int .i64 cl, .int .i64 ch] 43))
  have hC := Box.new (w.alloc (.cells #[.int .i64 tab, .slice pa pan.length pc, .int .i64 hei, .slice ta top.length tc, .slice ba bot.length bc, .int .i64 slo, .bool opn] 40)) [.int .i64 cl, .int .i64 ch] 43 (w.heap.size + 1) (by simp)
  obtain ⟨o0, o1⟩ := in_one hoff
  have HO := Lib.hid hoff
  have HG := Lib.hid G
  have HC := Lib.hid hc
  have hcb : 0 ≤ cl ∧ cl ≤ 10000 ∧ 0 ≤ ch ∧ ch ≤ 10000 := by
    simp only [okSpan, inB, in1, List.all_cons, List.all_nil, Bool.and_true, Bool.and_eq_true, decide_eq_true_eq] at hc
    omega
  have hcs : ([⟨cl, ch⟩] : List Sp).all (okSp 1 10000) = true := by simpa [okSp] using hc
  have HCS := Lib.hid hcs
  obtain ⟨cb0, cb1, cb2, cb3⟩ := hcb
  clear hoff G hc hcs
  go_enter Try.func12, Try.ntmps12
  go_wp2
  refine wp_abs (fun W => Gr w W ∧ Box W w.heap.size [.int .i64 tab, .slice pa pan.length pc, .int .i64 hei, .slice ta top.length tc, .slice ba bot.length bc, .int .i64 slo, .bool opn] ∧ Box W (w.heap.size + 1) [.int .i64 cl, .int .i64 ch]) ⟨gg, hB, hC⟩ ?_
  clear gg hB hC
  rintro W ⟨gg, hB, hC⟩
  have gX := Gr.dr W
  have gA := (Gr.al W (.cells #[.int .i64 cl, .int .i64 ch] 43)).tr (Gr.dr _)
  have rA := (SRow.new1 W 43 cl ch W.heap.size rfl).grow (Gr.dr _)
  obtain ⟨f0, f1, f2, f3, f4, f5, f6⟩ := (hB.keep gA).c7
  obtain ⟨p0, p1⟩ := (hC.keep gA).c2
  obtain ⟨e0, e1, e2, e3, e4, e5, e6⟩ := (hB.keep gX).c7
  obtain ⟨q0, q1⟩ := (hC.keep gX).c2
  go_region_held3 (fun w' => w'.cell? ⟨w.heap.size + 1, 0, none⟩ = some (.int .i64 cl) ∧ w'.cell? ⟨w.heap.size + 1, 1, none⟩ = some (.int .i64 ch) ∧ w'.cell? ⟨w.heap.size, 0, none⟩ = some (.int .i64 tab) ∧ w'.cell? ⟨w.heap.size, 1, none⟩ = some (.slice pa pan.length pc) ∧ w'.cell? ⟨w.heap.size, 2, none⟩ = some (.int .i64 hei) ∧ w'.cell? ⟨w.heap.size, 3, none⟩ = some (.slice ta top.length tc) ∧ w'.cell? ⟨w.heap.size, 4, none⟩ = some (.slice ba bot.length bc) ∧ w'.cell? ⟨w.heap.size, 5, none⟩ = some (.int .i64 slo) ∧ w'.cell? ⟨w.heap.size, 6, none⟩ = some (.bool opn)) (first | exact ⟨q0, q1, e0, e1, e2, e3, e4, e5, e6⟩ | exact ⟨p0, p1, f0, f1, f2, f3, f4, f5, f6⟩ | go_keep) (first
    | (go_at_call 27; (refine (checkB_ok _ _ _ _ _ _ _ _ _ _ _ _ _ HG.out _ ?_ ?_ ?_).mono ?_); (first | exact hp.grow (gg.tr gX) | exact hp.grow (gg.tr gA)); (first | exact ht.grow (gg.tr gX) | exact ht.grow (gg.tr gA)); (first | exact hb.grow (gg.tr gX) | exact hb.grow (gg.tr gA)); rintro e w3 ⟨rfl, hx⟩; have g3 : Gr _ w3 := (by first | exact gX.tr hx | exact gA.tr hx); (obtain ⟨e0, e1, e2, e3, e4, e5, e6⟩ := (hB.keep g3).c7); obtain ⟨q0, q1⟩ := (hC.keep g3).c2)
    | (go_at_call 28; (refine (measured_ok [⟨cl, ch⟩] HCS.out _ _ _ ?_).mono ?_); (first | exact SRow.new1 _ _ _ _ _ rfl | exact rA.grow hx); rintro e w4 ⟨rfl, hy⟩; have g4 : Gr _ w4 := (by first | exact g3.tr hy | exact g3.tr ((Gr.al _ _).tr hy)); (obtain ⟨e0, e1, e2, e3, e4, e5, e6⟩ := (hB.keep g4).c7); obtain ⟨q0, q1⟩ := (hC.keep g4).c2)
    | (go_at_call 29; (refine (known_ok off HO.out _).mono ?_); rintro e w5 ⟨rfl, hz⟩; have g5 := g4.tr hz; (obtain ⟨e0, e1, e2, e3, e4, e5, e6⟩ := (hB.keep g5).c7); obtain ⟨q0, q1⟩ := (hC.keep g5).c2)
    | (go_at_call 26; (refine (first_three _ _ _ (zeros_row _ _)).mono ?_); rintro e w6 ⟨rfl, hv⟩; have g6 := g5.tr ((Gr.al _ _).tr hv); (obtain ⟨e0, e1, e2, e3, e4, e5, e6⟩ := (hB.keep g6).c7); obtain ⟨q0, q1⟩ := (hC.keep g6).c2))
  all_goals
    have gW := gg.tr g6
    have bB := hB.keep g6
    have bC := hC.keep g6
    clear e0 e1 e2 e3 e4 e5 e6 q0 q1 p0 p1 f0 f1 f2 f3 f4 f5 f6 gA rA hx hy hz hv g3 g4 g5 g6 gX gg hB hC
    obtain ⟨e0, e1, e2, e3, e4, e5, e6⟩ := bB.c7
    obtain ⟨i0, hi, hz0, hz1, hz2⟩ := info_parts infoSpan
    go_wp2_with fail
    refine (layS_any _ _ _ _ _ _ _ _ _ _ _ _ _ _ _).mono ?_
    rintro e w7 ⟨rfl, hx⟩
    have gV := Gr.al w7 (.cells #[.int .i64 tab, .slice pa pan.length pc, .int .i64 hei, .slice ta top.length tc, .slice ba bot.length bc, .int .i64 slo, .bool opn, .int .i64 off, .slice ta top.length tc, .slice ba bot.length bc] 84)
    have bX := Box.new w7 [.int .i64 tab, .slice pa pan.length pc, .int .i64 hei, .slice ta top.length tc, .slice ba bot.length bc, .int .i64 slo, .bool opn, .int .i64 off, .slice ta top.length tc, .slice ba bot.length bc] 84 w7.heap.size rfl
    have g7 := gW.tr (hx.tr gV)
    have bC7 := bC.keep (hx.tr gV)
    clear e0 e1 e2 e3 e4 e5 e6 bB bC gW
    obtain ⟨V, hV⟩ : ∃ V, V = w7.alloc (.cells #[.int .i64 tab, .slice pa pan.length pc, .int .i64 hei, .slice ta top.length tc, .slice ba bot.length bc, .int .i64 slo, .bool opn, .int .i64 off, .slice ta top.length tc, .slice ba bot.length bc] 84) := ⟨_, rfl⟩
    have HV := Lib.hid hV
    rw [← hV] at g7 bC7 bX
    clear hV gV
    obtain ⟨w8, hmk, hown, hgrow⟩ := run_make_own (P := Try.prog) V V.heap.size 49 43 i0 (.agg #[.int .i64 0, .int .i64 0]) 2 Try.underlying49 hi hz0 hz1 .i64 .i64 9 (by rw [hz2]; omega) (by unfold maxLen; omega) (Nat.le_refl _)
    have hgV : Gr V w8 := (Below.refl _ V).grown hgrow (Nat.le_refl _) (fun b hb' => by cases hb')
    have e3 : V.heap.size = w7.heap.size + 1 := by rw [HV.out]; simp
    rw [HV.out] at hmk
    rw [show ((9 : Nat) : Int) = 9 from rfl] at hmk
    go_wp2
    clear hgrow hmk
    go_loopw [28, 10] (fun i v wr => ∃ k : Nat, k ≤ 9 ∧ i = .int .i64 k ∧ Gr V wr ∧ wr.ownsRow V.heap.size 43 2 v k ((innerL off hei pan top bot opn cl ch k).flatMap encS)) (fun i v wr => 9 - (intOf i).toNat)
    case atStart => exact ⟨0, Nat.zero_le _, rfl, hgV, by rw [← e3]; exact hown⟩
    case round =>
      clear hown hgV
      obtain ⟨k, hk, rfl, gV, hown⟩ := hrel
      by_cases hlt : k < 9
      · obtain ⟨y0, y1, y2, y3, y4, y5, y6, y7, y8, y9⟩ := (bX.keep gV).c10
        obtain ⟨q0, q1⟩ := (bC7.keep gV).c2
        have g9 := g7.tr gV
        have hp9 := hp.grow g9
        have ht9 := ht.grow g9
        have hb9 := hb.grow g9
        have hk1 : k + 1 ≤ maxLen := by unfold maxLen; omega
        have hk2 : (k + 1) * 16 ≤ 140737488355328 := by omega
        go_wp2_with (first | (go_at_call 31; refine (inside_all _ _ _ _ _ _ _ _ _ _ _ _ _ _ cl ch HG.out (by omega) (by omega) cb0 cb1 cb2 cb3 k hlt _ hp9 ht9 hb9).mono ?_; rintro e w5 ⟨rfl, hy⟩) | (at_builtin; refine wpList_append_own _ rfl _ _ 49 rfl V.heap.size 43 i0 (.agg #[.int .i64 0, .int .i64 0]) 2 16 Try.underlying49 hi hz0 hz1 hz2 rfl (by decide) _ _ _ rfl (owns_keep hown (hy.tr (Gr.al _ _))) ⟨w5.heap.size, 0, none⟩ 1 1 ([(innerAt off hei pan top bot opn cl ch k).lo, (innerAt off hei pan top bot opn cl ch k).hi].map (fun n => Value.int .i64 n)) rfl rfl (cell_news _ _ _) (ints_one _) hk1 hk2 (gV.tr (hy.tr (Gr.al _ _))).size ?_; intro v' w6 hown' hgrow' _))
        go_roundw
        case rel =>
          refine ⟨k + 1, by omega, by go_num, (gV.tr (hy.tr (Gr.al _ _))).grown' (owns_keep hown (hy.tr (Gr.al _ _))) (Nat.le_refl _) hgrow', ?_⟩
          unfold innerL
          rw [List.range_succ, List.map_append, List.map_singleton, flat_snoc]
          exact hown'
        case measure => simp [intOf]; omega
      · obtain rfl : k = 9 := by omega
        have hlen : (innerL off hei pan top bot opn cl ch 9).length = 9 := by simp [innerL]
        obtain ⟨a, cap, hv, hr⟩ := owns_row (enc := encS) (l := innerL off hei pan top bot opn cl ch 9) (fun _ => rfl) (by rw [hlen]; omega) (by rw [hlen]; exact hown)
        subst hv
        have Hr := Lib.hid hr
        have Hlen := Lib.hid hlen
        clear hr hlen
        go_wp2
        go_ret2
        exact ⟨a, cap, rfl, g7.tr gV, Hr.out⟩

end Go.Proofs.Ytbohjmogpiaejaa
