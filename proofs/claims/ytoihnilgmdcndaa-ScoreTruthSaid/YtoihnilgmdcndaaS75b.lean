/- ScoreTruth for sheets of bytes. (Made by gen_s75.py.) -/
import Derived.Test.YtoihnilgmdcndaaQS75b
import Derived.Test.YtoihnilgmdcndaaQS75a
namespace Go.Proofs.Ytoihnilgmdcndaa
set_option linter.unusedVariables false
set_option linter.unusedSimpArgs false
open Go.RowKit

theorem bounds_i8 {n : Int} (h : (Lit.int .i8 n).wf = true) : -128 ≤ n ∧ n ≤ 127 := by
  simp [Lit.wf, IntKind.wrap, IntKind.bits, IntKind.signed] at h
  have h1 : IntKind.i8.min = -128 := by decide
  have h2 : IntKind.i8.max = 127 := by decide
  omega

/-- By how much a measure is wrong is at most off. -/
theorem tmod_near {j off d : Int} (h0 : 0 ≤ off) (h : j.tmod (off + 1) = d) : -off ≤ d ∧ d ≤ off := by
  have h1 := Int.tmod_lt_of_pos j (show 0 < off + 1 by omega)
  have h2 := Int.tmod_lt_of_pos (-j) (show 0 < off + 1 by omega)
  rw [Int.neg_tmod] at h2
  omega

theorem innerSeen_any (off P0 P1 P2 P3 T0 T1 B0 B1 H : Int) (o : Bool) (cl ch : Int) (B : Blank4 P0 P1 P2 P3 T0 T1 B0 B1 H o) (c : Cal2 cl ch) (hoff : inB 0 5 [off] = true) (pa ta ba : Option Addr) (pc tc bc : Nat) (w : World) (hp : IRow w pa [P0, P1, P2, P3]) (ht : IRow w ta [T0, T1]) (hb : IRow w ba [B0, B1]) :
    Calls Try.prog 23 #[.agg #[.int .i64 30, .slice pa 4 pc, .int .i64 H, .slice ta 2 tc, .slice ba 2 bc, .int .i64 9, .bool o], .agg #[.int .i64 cl, .int .i64 ch], .int .i64 off] w (InnerFound (fun k => innerAt off H [P0, P1, P2, P3] [T0, T1] [B0, B1] o cl ch k) w) := by
  refine (inner_ok 30 H 9 off [P0, P1, P2, P3] [T0, T1] [B0, B1] pa ta ba pc tc bc o cl ch B.good hoff c.ok w hp ht hb).mono ?_
  rintro e w' ⟨a, cap, he, g, r⟩
  have hl : (innerL off H [P0, P1, P2, P3] [T0, T1] [B0, B1] o cl ch 9).length = 9 := by simp [innerL]
  rw [hl] at he
  obtain ⟨b, f, rfl, _⟩ := SRow.get r (j := 0) (x := innerAt off H [P0, P1, P2, P3] [T0, T1] [B0, B1] o cl ch 0) (by simp [innerL])
  exact ⟨b, f, cap, he, g, r⟩

/-- The twin closes. -/
theorem twin_closes {p0 p1 t0 t1 s0 s1 hei : Int} {o : Bool} (h : Sheet4 p0 p1 p0 p1 t0 t1 s0 s1 hei o) (ht : o = true ∨ (t0 = s0 ∧ t1 = s1)) {cl ch : Int} (c : Cal4 cl ch) {w0 w1 w2 w3 w4 : Int} (hw : Wide w0 w1 w2 w3 w4) :
    Fea (wholeR o) (wishOf p0 p1 s0 s1 hei o cl ch w0 w1 w2 w3 w4) cl ch (drOf p0 p1 p0 p1 t0 t1 s0 s1 hei 9) := by
  have N : NumOk p0 p1 p0 p1 t0 t1 s0 s1 hei 9 o := by
    obtain ⟨g0, g1, g2, g3, g4, g5, g6, g7, g8, g9⟩ := h
    exact ⟨by omega, by omega, by omega, by omega, by omega, by omega, by omega, by omega, by omega, by omega, g9⟩
  exact fea_of c.2.1 N (fun k hk => folds_at h (by have := h.1; omega) (by have := h.2.1; omega) ht c hw hk (fun _ => rfl) (fun _ => rfl))

set_option maxRecDepth 100000 in
set_option maxHeartbeats 1000000 in
theorem truth_body (p0 p1 p2 p3 h f0 f1 f2 f3 : Int) (o : Bool) (c0 c1 w0 w1 w2 w3 w4 : Int) (hp0 : By p0) (hp1 : By p1) (hp2 : By p2) (hp3 : By p3) (hh : By h) (hf0 : By f0) (hf1 : By f1) (hf2 : By f2) (hf3 : By f3) (hc0 : By c0) (hc1 : By c1) (hw0 : By w0) (hw1 : By w1) (hw2 : By w2) (hw3 : By w3) (hw4 : By w4) (j0 j1 j2 j3 j4 j5 j6 j7 j8 : Int) (hj : ∀ j, j ∈ [j0, j1, j2, j3, j4, j5, j6, j7, j8] → -128 ≤ j ∧ j ≤ 127) (y0 y1 : Int) (hy0 : By y0) (hy1 : By y1) (w : World) :
    Calls Try.prog 11 #[.agg #[.int .u8 p0, .int .u8 p1, .int .u8 p2, .int .u8 p3, .int .u8 h, .int .u8 f0, .int .u8 f1, .int .u8 f2, .int .u8 f3, .bool o, .int .u8 c0, .int .u8 c1, .int .u8 w0, .int .u8 w1, .int .u8 w2, .int .u8 w3, .int .u8 w4], .agg #[.int .i8 j0, .int .i8 j1, .int .i8 j2, .int .i8 j3, .int .i8 j4, .int .i8 j5, .int .i8 j6, .int .i8 j7, .int .i8 j8], .agg #[.int .u8 y0, .int .u8 y1]] w fun e w' => e = .returned (.bool true) ∧ Gr w w' := by
  obtain ⟨g0, g1, hu, _⟩ := topOf_two o f0 f1 hf0 hf1
  obtain ⟨t0, t1, ht, ta, tb, tc, td⟩ := topOf_two o f2 f3 hf2 hf3
  have S : Sheet4 (60 + p0) (60 + p1) (60 + p0) (60 + p1) t0 t1 f2 f3 (40 + h) o := ⟨⟨by have := hp0.1; omega, by have := hp0.2; omega⟩, ⟨by have := hp1.1; omega, by have := hp1.2; omega⟩, ⟨by have := hp0.1; omega, by have := hp0.2; omega⟩, ⟨by have := hp1.1; omega, by have := hp1.2; omega⟩, ta, tb, hf2, hf3, ⟨by have := hh.1; omega, by have := hh.2; omega⟩, tc⟩
  have K : Cal4 (1500 + 20 * c0) (1500 + 20 * c0 + 2 * c1) := ⟨by have := hc0.1; omega, by have := hc1.1; omega, by have := hc0.2; have := hc1.2; omega⟩
  have Q := wide_of hw0 hw1 hw2 hw3 hw4
  obtain ⟨cl, hcl⟩ : ∃ z, 1500 + 20 * c0 = z := ⟨_, rfl⟩
  obtain ⟨ch, hch⟩ : ∃ z, 1500 + 20 * c0 + 2 * c1 = z := ⟨_, rfl⟩
  have SC := fun v => sheetCal_any p0 p1 p2 p3 h f0 f1 f2 f3 o c0 c1 w0 w1 w2 w3 w4 hc0 hc1 v
  have WI := fun pa ta ba pc tc bc v h1 h2 h3 => wished_any p0 p1 p2 p3 h f0 f1 f2 f3 o c0 c1 w0 w1 w2 w3 w4 hw0 hw1 hw2 hw3 hw4 (60 + p0) (60 + p1) (60 + p0) (60 + p1) t0 t1 f2 f3 (40 + h) o (1500 + 20 * c0) (1500 + 20 * c0 + 2 * c1) (Lib.hid S) (Lib.hid K) pa ta ba pc tc bc v h1 h2 h3
  rw [hch, hcl] at K SC WI
  clear hcl hch
  obtain ⟨off, hoff⟩ : ∃ z, y0 % 6 = z := ⟨_, rfl⟩
  have ho : 0 ≤ off ∧ off ≤ 5 := by omega
  have hoff5 : inB 0 5 [off] = true := by simp only [inB, in1, List.all_cons, List.all_nil, Bool.and_true, Bool.and_eq_true, decide_eq_true_eq]; exact ho
  obtain ⟨cp, hcp⟩ : ∃ z, cl + y1 * (ch - cl) / 255 = z := ⟨_, rfl⟩
  have hC : cl ≤ cp ∧ cp ≤ ch := by
    have k1 := K.2.1
    have m0 : 0 ≤ y1 * (ch - cl) := Int.mul_nonneg hy1.1 (by omega)
    have m1 : y1 * (ch - cl) ≤ 255 * (ch - cl) := Int.mul_le_mul_of_nonneg_right hy1.2 (by omega)
    generalize y1 * (ch - cl) = m at m0 m1 hcp
    omega
  have c2 : Cal2 cl ch := ⟨by have := K.1; omega, K.2.1, by have := K.2.2; omega⟩
  have c3 : Cal2 cp ch := ⟨by have := K.1; omega, hC.2, by have := K.2.2; omega⟩
  obtain ⟨d0, hd0⟩ : ∃ z, j0.tmod (off + 1) = z := ⟨_, rfl⟩
  have nd0 := tmod_near ho.1 hd0
  obtain ⟨d1, hd1⟩ : ∃ z, j1.tmod (off + 1) = z := ⟨_, rfl⟩
  have nd1 := tmod_near ho.1 hd1
  obtain ⟨d2, hd2⟩ : ∃ z, j2.tmod (off + 1) = z := ⟨_, rfl⟩
  have nd2 := tmod_near ho.1 hd2
  obtain ⟨d3, hd3⟩ : ∃ z, j3.tmod (off + 1) = z := ⟨_, rfl⟩
  have nd3 := tmod_near ho.1 hd3
  obtain ⟨d4, hd4⟩ : ∃ z, j4.tmod (off + 1) = z := ⟨_, rfl⟩
  have nd4 := tmod_near ho.1 hd4
  obtain ⟨d5, hd5⟩ : ∃ z, j5.tmod (off + 1) = z := ⟨_, rfl⟩
  have nd5 := tmod_near ho.1 hd5
  obtain ⟨d6, hd6⟩ : ∃ z, j6.tmod (off + 1) = z := ⟨_, rfl⟩
  have nd6 := tmod_near ho.1 hd6
  obtain ⟨d7, hd7⟩ : ∃ z, j7.tmod (off + 1) = z := ⟨_, rfl⟩
  have nd7 := tmod_near ho.1 hd7
  obtain ⟨d8, hd8⟩ : ∃ z, j8.tmod (off + 1) = z := ⟨_, rfl⟩
  have nd8 := tmod_near ho.1 hd8
  obtain ⟨P0, hP0⟩ : ∃ z, (60 + p0) + d0 = z := ⟨_, rfl⟩
  obtain ⟨P1, hP1⟩ : ∃ z, (60 + p1) + d1 = z := ⟨_, rfl⟩
  obtain ⟨P2, hP2⟩ : ∃ z, (60 + p0) + d2 = z := ⟨_, rfl⟩
  obtain ⟨P3, hP3⟩ : ∃ z, (60 + p1) + d3 = z := ⟨_, rfl⟩
  obtain ⟨B0, hB0⟩ : ∃ z, max 0 (f2 + d4) = z := ⟨_, rfl⟩
  obtain ⟨B1, hB1⟩ : ∃ z, max 0 (f3 + d5) = z := ⟨_, rfl⟩
  obtain ⟨H, hH⟩ : ∃ z, (40 + h) + d8 = z := ⟨_, rfl⟩
  obtain ⟨T0, T1, hT, hT'⟩ : ∃ T0 T1, (o = false → max 0 (t0 + d6) = T0 ∧ max 0 (t1 + d7) = T1) ∧ (o = true → T0 = t0 ∧ T1 = t1) := by
    cases o with
    | true => exact ⟨t0, t1, fun e => (by cases e), fun _ => ⟨rfl, rfl⟩⟩
    | false => exact ⟨_, _, fun _ => ⟨rfl, rfl⟩, fun e => (by cases e)⟩
  obtain ⟨s0, s1, s2, s3, s4, s5, s6, s7, s8, s9⟩ := id S
  have hTb : (0 ≤ T0 ∧ T0 ≤ 260) ∧ (0 ≤ T1 ∧ T1 ≤ 260) ∧ (o = true → T0 = 0 ∧ T1 = 0) ∧ (o = false → Near off T0 t0 ∧ Near off T1 t1) := by
    cases o with
    | true =>
      obtain ⟨rfl, rfl⟩ := hT' rfl
      obtain ⟨rfl, rfl⟩ := s9 rfl
      exact ⟨by omega, by omega, fun _ => ⟨rfl, rfl⟩, fun e => (by cases e)⟩
    | false =>
      obtain ⟨e1, e2⟩ := hT rfl
      exact ⟨by omega, by omega, fun e => (by cases e), fun _ => ⟨⟨by omega, by omega⟩, ⟨by omega, by omega⟩⟩⟩
  have BS : Blank4 P0 P1 P2 P3 T0 T1 B0 B1 H o := ⟨by omega, by omega, by omega, by omega, by have := hTb.1; omega, by have := hTb.2.1; omega, by omega, by omega, by omega, hTb.2.2.1⟩
  have SN : Seen off P0 P1 P2 P3 T0 T1 B0 B1 H (60 + p0) (60 + p1) (60 + p0) (60 + p1) t0 t1 f2 f3 (40 + h) o := ⟨ho.1, ⟨by omega, by omega⟩, ⟨by omega, by omega⟩, ⟨by omega, by omega⟩, ⟨by omega, by omega⟩, hTb.2.2.2, ⟨by omega, by omega⟩, ⟨by omega, by omega⟩, ⟨by omega, by omega⟩⟩
  have SZ : Seen 0 (60 + p0) (60 + p1) (60 + p0) (60 + p1) t0 t1 f2 f3 (40 + h) (60 + p0) (60 + p1) (60 + p0) (60 + p1) t0 t1 f2 f3 (40 + h) o := ⟨by omega, ⟨by omega, by omega⟩, ⟨by omega, by omega⟩, ⟨by omega, by omega⟩, ⟨by omega, by omega⟩, fun _ => ⟨⟨by omega, by omega⟩, ⟨by omega, by omega⟩⟩, ⟨by omega, by omega⟩, ⟨by omega, by omega⟩, ⟨by omega, by omega⟩⟩
  have hW := wishOf_ok (p0 := 60 + p0) (p1 := 60 + p1) (s0 := f2) (s1 := f3) (hei := 40 + h) (o := o) (cl := cl) (ch := ch) Q K.2.1
  have FA := (twin_closes S td K Q).fewer hC.1 (Int.le_refl _) hC.2
  have hm := may_fea (drOf_L _ _ _ _ _ _ _ _ _ _) (seen_fea SN FA)
  have hz := may_fea (drOf_L _ _ _ _ _ _ _ _ _ _) (seen_fea SZ FA)
  have FC := (folds_close S td K Q).2
  exact truth_core _ _ _ _ _ _ _ _ _ _ _ _ _ _ _ _ _ j0 j1 j2 j3 j4 j5 j6 j7 j8 d0 d1 d2 d3 d4 d5 d6 d7 d8 y0 y1 hy0 hy1 off hoff (60 + p0) (60 + p1) (60 + p2) (60 + p3) g0 g1 t0 t1 f2 f3 (40 + h) o P0 P1 P2 P3 T0 T1 B0 B1 H cl ch cp (wishOf (60 + p0) (60 + p1) f2 f3 (40 + h) o cl ch (w0 % 4) (w1 % 4) (w2 % 4) (w3 % 6) (w4 % 6)) _
    (Lib.hid S) (Lib.hid K) (Lib.hid ⟨hcp, hC.1, hC.2⟩)
    (Lib.hid (fun bw bo v hb ho5 => ⟨by_any j0 off d0 0 (by decide) (hj _ (by simp)) ho hd0 bw bo v hb.1 (hb.2 0 _ rfl) ho5, by_any j1 off d1 1 (by decide) (hj _ (by simp)) ho hd1 bw bo v hb.1 (hb.2 1 _ rfl) ho5, by_any j2 off d2 2 (by decide) (hj _ (by simp)) ho hd2 bw bo v hb.1 (hb.2 2 _ rfl) ho5, by_any j3 off d3 3 (by decide) (hj _ (by simp)) ho hd3 bw bo v hb.1 (hb.2 3 _ rfl) ho5, by_any j4 off d4 4 (by decide) (hj _ (by simp)) ho hd4 bw bo v hb.1 (hb.2 4 _ rfl) ho5, by_any j5 off d5 5 (by decide) (hj _ (by simp)) ho hd5 bw bo v hb.1 (hb.2 5 _ rfl) ho5, by_any j6 off d6 6 (by decide) (hj _ (by simp)) ho hd6 bw bo v hb.1 (hb.2 6 _ rfl) ho5, by_any j7 off d7 7 (by decide) (hj _ (by simp)) ho hd7 bw bo v hb.1 (hb.2 7 _ rfl) ho5, by_any j8 off d8 8 (by decide) (hj _ (by simp)) ho hd8 bw bo v hb.1 (hb.2 8 _ rfl) ho5⟩))
    (Lib.hid ⟨⟨hP0, hP1, hP2, hP3⟩, ⟨hB0, hB1⟩, hT, hT', hH⟩)
    (Lib.hid (fun d hd => by
      simp only [List.mem_cons, List.not_mem_nil, or_false] at hd
      rcases hd with rfl | rfl | rfl | rfl | rfl | rfl | rfl | rfl | rfl <;> omega))
    (Lib.hid (fun v => (sheetBlank_any p0 p1 p2 p3 h f0 f1 f2 f3 o c0 c1 w0 w1 w2 w3 w4 hp0 hp1 hp2 hp3 hh hf0 hf1 hf2 hf3 v).mono (fun e w2 H => by rw [hu] at H; exact H.new)))
    (Lib.hid (fun pa ta ba pc tc bc v h1 h2 h3 => twin_at (60 + p0) (60 + p1) (60 + p2) (60 + p3) g0 g1 f2 f3 t0 t1 (40 + h) o ht pa ta ba pc tc bc v h1 h2 h3))
    (Lib.hid SC) (Lib.hid WI)
    (Lib.hid (fun pa ta ba pc tc bc v h1 h2 h3 => innerSeen_any off P0 P1 P2 P3 T0 T1 B0 B1 H o cl ch BS c2 hoff5 pa ta ba pc tc bc v h1 h2 h3))
    (Lib.hid (fun k hk => seen_inner SN S.ok hC.1 hC.2 hk))
    (Lib.hid (fun pa ta ba pc tc bc v h1 h2 h3 => micros4_any (60 + p0) (60 + p1) (60 + p0) (60 + p1) t0 t1 f2 f3 (40 + h) o cp S.ok (by have := c3.1; omega) (by have := c3.2; omega) pa ta ba pc tc bc v h1 h2 h3))
    (Lib.hid (fun pa ta ba pc tc bc v h1 h2 h3 => may4_any off P0 P1 P2 P3 T0 T1 B0 B1 H o _ cl ch cp BS hW c2 hoff5 hC.1 hC.2 hm pa ta ba pc tc bc v h1 h2 h3))
    (Lib.hid (fun pa ta ba pc tc bc v h1 h2 h3 => (may4_any 0 (60 + p0) (60 + p1) (60 + p0) (60 + p1) t0 t1 f2 f3 (40 + h) o _ cp ch cp S.ok hW c3 (by decide) (Int.le_refl _) hC.2 hz pa ta ba pc tc bc v h1 h2 h3).mono fun e w' ⟨n, he, hn, g⟩ => ⟨by rw [he, show n = cp by omega], g⟩))
    _ _ (Lib.hid FC)
    (Lib.hid (fun pa ta ba pc tc bc v h1 h2 h3 => (cal4_any (60 + p0) (60 + p1) (60 + p0) (60 + p1) t0 t1 f2 f3 (40 + h) o _ S.ok hW pa ta ba pc tc bc v h1 h2 h3).mono fun e w' h => h.some (by have := K.2.1; omega))) w

end Go.Proofs.Ytoihnilgmdcndaa
