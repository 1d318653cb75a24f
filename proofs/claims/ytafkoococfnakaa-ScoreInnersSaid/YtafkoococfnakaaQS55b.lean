/- The law's widened, the other measures. (Made by gen_s51.py.) The law's widened for all measures; Inner's error. (Made by gen_s53.py.) ScoreInners' body. (Made by gen_s54.py.) A law's end: it returned true and the world only grew. And: what an argument is that is made of integers of one kind. What an argument is that is a slice of small arrays of integers; a struct of three slices; the pieces of a struct. Blanks, spans and rows of ints that come in (chapter 2). -/
import Derived.Test.YtafkoococfnakaaQS55a
import Derived.ProofKit
import Derived.OpenShut
import Derived.Test.YtafkoococfnakaaQS32a
import Derived.ChangeSame
import Derived.Carry
namespace Go.Proofs.Ytafkoococfnakaa
set_option linter.unusedVariables false
set_option linter.unusedSimpArgs false
open Go.RowKit

def WidPostE5 (sl sh off c n f : Int) (w : World) (e : Ending) (w' : World) : Prop := ∃ lo hi, e = .returned (.agg #[.int .i64 lo, .int .i64 hi]) ∧ Gr w w' ∧ InvW (wF (arLo n off 1) (arLo f off 0) c) (arN f off 0) sl sh (arN n off 1) 0 lo hi

set_option maxRecDepth 100000 in
set_option maxHeartbeats 8000000 in
theorem widened_E5 (tab hei slo : Int) (pan top bot : List Int) (pa ta ba : Option Addr) (pc tc bc : Nat) (G : GoodB tab hei slo pan top bot false) (off c sl sh : Int) (o0 : 0 ≤ off) (o1 : off ≤ 5) (c0 : 0 ≤ c) (c1 : c ≤ 10000) (n : Int) (f : Int) (hx : pan[1]? = some n) (hf : top[0]? = some f) (w : World) (hp : IRow w pa pan) (ht : IRow w ta top) (hb : IRow w ba bot) :
    Calls Try.prog 27 #[.agg #[.int .i64 sl, .int .i64 sh], .agg #[.int .i64 tab, .slice pa pan.length pc, .int .i64 hei, .slice ta top.length tc, .slice ba bot.length bc, .int .i64 slo, .bool false], .int .i64 5, .int .i64 c, .int .i64 off] w (WidPostE5 sl sh off c n f w) := by
  have gg := ((Gr.al w (.cells #[.int .i64 sl, .int .i64 sh] 37)).tr (Gr.al _ (.cells #[.int .i64 tab, .slice pa pan.length pc, .int .i64 hei, .slice ta top.length tc, .slice ba bot.length bc, .int .i64 slo, .bool false] 24))).tr (Gr.al _ (.cells #[.int .i64 0, .int .i64 0] 37))
  have h5 := (Own.new w [.int .i64 sl, .int .i64 sh] 37 w.heap.size rfl).keep ((Gr.al _ (.cells #[.int .i64 tab, .slice pa pan.length pc, .int .i64 hei, .slice ta top.length tc, .slice ba bot.length bc, .int .i64 slo, .bool false] 24)).tr (Gr.al _ (.cells #[.int .i64 0, .int .i64 0] 37)))
  have h6 := (Box.new (w.alloc (.cells #[.int .i64 sl, .int .i64 sh] 37)) [.int .i64 tab, .slice pa pan.length pc, .int .i64 hei, .slice ta top.length tc, .slice ba bot.length bc, .int .i64 slo, .bool false] 24 (w.heap.size + 1) (by simp)).keep (Gr.al _ (.cells #[.int .i64 0, .int .i64 0] 37))
  have h10 := Own.new ((w.alloc (.cells #[.int .i64 sl, .int .i64 sh] 37)).alloc (.cells #[.int .i64 tab, .slice pa pan.length pc, .int .i64 hei, .slice ta top.length tc, .slice ba bot.length bc, .int .i64 slo, .bool false] 24)) [.int .i64 0, .int .i64 0] 37 (w.heap.size + 1 + 1) (by simp)
  have HP := Lib.hid hp
  have HT := Lib.hid ht
  have HB := Lib.hid hb
  have HG := Lib.hid G
  clear hp ht hb
  obtain ⟨b0, b1, b2, b3, b4, b5, b6⟩ := h6.c7
  go_enter Try.func27, Try.ntmps27
  go_upto_region 2 with (go_at_call 16; refine (own02_own tab hei slo pan top bot pa ta ba pc tc bc false (by rw [HG.out.l4]; omega) (by rw [HG.out.t2]; omega) (by rw [HG.out.b2]; omega) _ (HP.out.grow gg) (HT.out.grow gg) (HB.out.grow gg)).mono ?_; rintro e w1 ⟨r3, c3, r7, c7, r11, c11, rfl, g1, o3, o7, o11, ⟨n3, n7, n11⟩, n37, n3b, n7b⟩)
  obtain ⟨B, hB⟩ : ∃ B, B = w1.heap.size := ⟨_, rfl⟩
  have ho := Own.new w1 (XCells tab pan top bot r3 r7 r11 c3 c7 c11 slo false hei) 24 B hB
  have gq := g1.tr (Gr.al w1 (.cells (XCells tab pan top bot r3 r7 r11 c3 c7 c11 slo false hei).toArray 24))
  have gq1 := Gr.al w1 (.cells (XCells tab pan top bot r3 r7 r11 c3 c7 c11 slo false hei).toArray 24)
  have l3 : r3 < B := hB ▸ o3.1.1
  have l11 : r11 < B := hB ▸ o11.1.1
  have l6 := h6.1
  have l10 := h10.1.1
  have lB : w.heap.size + 1 + 1 < B := by have := g1.size; omega
  have m3 : w.heap.size + 1 + 1 < r3 := by omega
  have m11 : w.heap.size + 1 + 1 < r11 := by omega
  rw [← hB]
  refine wp_abs (fun X => Gr w X ∧ Own X w.heap.size [.int .i64 sl, .int .i64 sh] ∧ Box X (w.heap.size + 1) [.int .i64 tab, .slice pa pan.length pc, .int .i64 hei, .slice ta top.length tc, .slice ba bot.length bc, .int .i64 slo, .bool false] ∧ Own X (w.heap.size + 1 + 1) [.int .i64 0, .int .i64 0] ∧ Own X B (XCells tab pan top bot r3 r7 r11 c3 c7 c11 slo false hei) ∧ Own X r3 (pan.map (fun n => Value.int .i64 n)) ∧ Own X r11 (bot.map (fun n => Value.int .i64 n)) ∧ B < X.heap.size) ⟨gg.tr gq, h5.keep gq, h6.keep gq, h10.keep gq, ho, o3.keep gq1, o11.keep gq1, ho.1.1⟩ ?_
  clear gg h5 h6 h10 ho o3 o7 o11 gq gq1 hB n3 n7 n11 n37 n7b g1 l6 l10 b0 b1 b2 b3 b4 b5 b6
  rintro X ⟨gX, h5, h6, h10, ho, o3, o11, lX⟩
  obtain ⟨b0, b1, b2, b3, b4, b5, b6⟩ := h6.c7
  obtain ⟨nn0, nn1⟩ := in_at HG.out.gpan hx
  have hpl : 4 ≤ pan.length ∧ pan.length ≤ 4 := by rw [HG.out.l4]; omega
  obtain ⟨pb, po, rfl, _, hc⟩ := IRow.get (HP.out.grow gX) hx
  try simp only [Nat.add_zero] at hc
  obtain ⟨ff0, ff1⟩ := in_at HG.out.gtop hf
  obtain ⟨fb, fo, rfl, _, hd⟩ := IRow.get (HT.out.grow gX) hf
  try simp only [Nat.add_zero] at hd
  have hbl : 2 ≤ bot.length ∧ bot.length ≤ 2 := by rw [HG.out.b2]; omega
  have htl : 2 ≤ top.length ∧ top.length ≤ 2 := by rw [HG.out.t2]; omega
  have hbp : (1 : Int) < (bot.length : Int) := by omega
  have hbq : (0 : Int) < (bot.length : Int) := by omega
  have htp : (1 : Int) < (top.length : Int) := by omega
  have htq : (0 : Int) < (top.length : Int) := by omega
  have hbr : 1 < bot.length ∧ 0 < bot.length := by omega
  have htr : 1 < top.length ∧ 0 < top.length := by omega
  skip
  have lr3 : w.heap.size ≠ r3 := by omega
  have lr11 : w.heap.size ≠ r11 := by omega
  have gA := (Gr.al X (.cells #[] 3)).tr (Gr.al _ (.cells #[.int .i64 0] 3))
  have h6 := h6.keep gA
  clear b0 b1 b2 b3 b4 b5 b6
  obtain ⟨b0, b1, b2, b3, b4, b5, b6⟩ := h6.c7
  clear hc
  obtain ⟨_, _, eq9, _, hc⟩ := IRow.get (HP.out.grow (gX.tr gA)) hx
  cases eq9
  try simp only [Nat.add_zero] at hc
  have tk : True := trivial
  go_wp2_with (first
    | (have _t := tk; clear tk _t; go_at_call 70; refine (refAround_any n off 1 (by omega) (by omega) o0 o1 (by omega) _).mono ?_; rintro e w2 ⟨la, lc, rfl, g2, rl, nl⟩; replace h6 := h6.keep g2; clear hd; obtain ⟨_, _, eq9, _, hd⟩ := IRow.get (HT.out.grow (gX.tr (gA.tr g2))) hf; cases eq9; (try simp only [Nat.add_zero] at hd); clear b0 b1 b2 b3 b4 b5 b6; obtain ⟨b0, b1, b2, b3, b4, b5, b6⟩ := h6.c7)
    | (go_at_call 70; refine (refAround_any f off 0 (by omega) (by omega) o0 o1 (by omega) _).mono ?_; rintro e w3 ⟨fa, fc, rfl, g3, rf, nf⟩))
  replace rl := rl.grow g3
  have W2 : Gr X w3 := gA.tr (g2.tr g3)
  have hfp : 0 < arN f off 0 := by unfold arN arHi arLo; omega
  obtain ⟨fb0, fo0, rfl, _, _⟩ := IRow.get rf (upL_get hfp)
  have nf : NewAt (B + 1) (some (⟨fb0, fo0, none⟩ : Addr)) := nf.le (by have := (gA.tr g2).size; omega)
  obtain ⟨NF, hNF⟩ : ∃ k, arN f off 0 = k := ⟨_, rfl⟩
  obtain ⟨g0, hg0⟩ : ∃ k, arLo f off 0 = k := ⟨_, rfl⟩
  have ng : 0 ≤ g0 ∧ g0 ≤ f ∧ 0 < NF ∧ NF ≤ 11 ∧ g0 + (NF : Int) ≤ 3001 := by unfold arN arHi arLo at hNF; unfold arLo at hg0; omega
  have hlp : 0 < arN n off 1 := by unfold arN arHi arLo; omega
  obtain ⟨gl, go, rfl, _, _⟩ := IRow.get rl (upL_get hlp)
  have nl : NewAt (B + 1) (some (⟨gl, go, none⟩ : Addr)) := nl.le (by have := gA.size; omega)
  obtain ⟨NL, hNL⟩ : ∃ k, arN n off 1 = k := ⟨_, rfl⟩
  obtain ⟨l0, hl0⟩ : ∃ k, arLo n off 1 = k := ⟨_, rfl⟩
  have nn : 1 ≤ l0 ∧ l0 ≤ n ∧ 0 < NL ∧ NL ≤ 11 ∧ l0 + (NL : Int) ≤ 3001 := by unfold arN arHi arLo at hNL; unfold arLo at hl0; omega
  rw [show arL n off 1 = upL l0 NL by unfold arL; rw [hNL, hl0]] at rl
  rw [show arL f off 0 = upL g0 NF by unfold arL; rw [hNF, hg0]] at rf
  rw [hNL, hNF]
  have hsp := set_self pan 1
  have hsb := set_self bot 0
  have K0 : WidK w w.heap.size (w.heap.size + 1 + 1) B r3 r11 (XCells tab pan top bot r3 r7 r11 c3 c7 c11 slo false) pan bot 1 0 (some ⟨gl, go, none⟩) (some ⟨fb0, fo0, none⟩) (upL l0 NL) (upL g0 NF) sl sh w3 := ⟨gX.tr W2, h5.keep W2, h10.keep W2, ⟨_, ho.keep W2⟩, ⟨pan.getD 1 0, by rw [← hsp]; exact o3.keep W2⟩, ⟨bot.getD 0 0, by rw [← hsb]; exact o11.keep W2⟩, rl, rf⟩
  have HE := (Lib.hid (And.intro (And.intro hNL hl0) (And.intro hNF hg0)))
  have HX := Lib.hid hx
  clear hsp hsb rl rf h5 h6 h10 ho o3 o11 b0 b1 b2 b3 b4 b5 b6 gX gA g2 g3 hNF hg0 hfp W2 hNL hl0 hlp hc
  have e56 : w.heap.size ≠ w.heap.size + 1 + 1 := by omega
  have e5B : w.heap.size ≠ B := by omega
  have e10B : w.heap.size + 1 + 1 ≠ B := by omega
  have e103 : w.heap.size + 1 + 1 ≠ r3 := by omega
  have e1011 : w.heap.size + 1 + 1 ≠ r11 := by omega
  have e3B : r3 ≠ B := by omega
  have e11B : r11 ≠ B := by omega
  have le3 : w.heap.size ≤ r3 := by omega
  have le11 : w.heap.size ≤ r11 := by omega
  have leB : w.heap.size ≤ B := by omega
  have t3 : r3 < B + 1 := by omega
  have t11 : r11 < B + 1 := by omega
  have t5 : w.heap.size < B + 1 := by omega
  go_loopw [15] (fun t wr => Hid (∃ (i : Nat) (lo hi : Int), i ≤ NL ∧ t = .int .i64 i ∧ WidK w w.heap.size (w.heap.size + 1 + 1) B r3 r11 (XCells tab pan top bot r3 r7 r11 c3 c7 c11 slo false) pan bot 1 0 (some ⟨gl, go, none⟩) (some ⟨fb0, fo0, none⟩) (upL l0 NL) (upL g0 NF) lo hi wr ∧ InvW (wF l0 g0 c) NF sl sh i 0 lo hi)) (fun t _ => NL - (intOf t).toNat)
  case atStart => exact Lib.hid ⟨0, sl, sh, Nat.zero_le _, rfl, K0, InvW.start _ _ _ _⟩
  case round =>
    clear K0
    obtain ⟨i, lo, hi, hiN, rfl, K, V⟩ := hrel.out
    clear hrel
    by_cases hlt : i < NL
    case neg =>
      obtain rfl : i = NL := by omega
      have s5 := K.s.1.2 0 _ rfl
      have s6 := K.s.1.2 1 _ rfl
      obtain ⟨y0, y1⟩ := K.z.1.c2
      have z0 := K.z.2 0
      have z1 := K.z.2 1
      have HV := Lib.hid V
      have gK := K.g
      have hle10 : w.heap.size ≤ w.heap.size + 1 + 1 := by omega
      clear V K
      go_wp2
      refine bodyPost_ret (v := .agg #[.int .i64 lo, .int .i64 hi]) (by simp [results, Try.results27, go_sem, y0, y1]) rfl ⟨lo, hi, rfl, (gK.setCell hle10 _).setCell hle10 _, ?_⟩
      have e := HE.out
      rw [e.1.1, e.1.2, e.2.1, e.2.2]
      exact HV.out
    have HV := Lib.hid V
    clear V
    have hil : (i : Int) < (NL : Int) := by omega
    go_wp2
    go_loopw [16] (fun t wr => Hid (∃ (k : Nat) (lo hi : Int), k ≤ NF ∧ t = .int .i64 k ∧ WidK w w.heap.size (w.heap.size + 1 + 1) B r3 r11 (XCells tab pan top bot r3 r7 r11 c3 c7 c11 slo false) pan bot 1 0 (some ⟨gl, go, none⟩) (some ⟨fb0, fo0, none⟩) (upL l0 NL) (upL g0 NF) lo hi wr ∧ InvW (wF l0 g0 c) NF sl sh i k lo hi)) (fun t _ => NF - (intOf t).toNat)
    case atStart => exact Lib.hid ⟨0, lo, hi, Nat.zero_le _, rfl, K, HV.out⟩
    case round =>
      clear K HV lo hi
      obtain ⟨k, lo, hi, hkN, rfl, K, V⟩ := hrel.out
      clear hrel
      by_cases hkt : k < NF
      case neg =>
        obtain rfl : k = NF := by omega
        have HV := Lib.hid V.row
        clear V
        go_wp2
        go_roundw
        case rel => exact Lib.hid ⟨i + 1, lo, hi, by omega, by go_num, K, HV.out⟩
        case measure => simp [intOf]; omega
      obtain ⟨gK, ks, kz, ⟨xh, kx⟩, ⟨yp, kp⟩, ⟨yb, kb⟩, kl, kf⟩ := K
      have hkl : (k : Int) < (NF : Int) := by omega
      obtain ⟨_, _, e9, _, cl⟩ := IRow.get kl (upL_get hlt)
      cases e9
      obtain ⟨_, _, e9, _, cf⟩ := IRow.get kf (upL_get hkt)
      cases e9
      have HV := Lib.hid (V.step hkt)
      clear V
      obtain ⟨nv, hnv⟩ : ∃ z, wF l0 g0 c i k = z := ⟨_, rfl⟩
      rw [hnv] at HV
      try simp only [Nat.zero_add] at cf
      try simp only [Nat.zero_add] at cl
      have mjl : 1 < pan.length := by omega
      have mql : 0 < bot.length := by omega
      have mjp : (1 : Int) < (pan.length : Int) := by omega
      have mqp : (0 : Int) < (bot.length : Int) := by omega
      go_upto_region 20 with fail
      have hF : Held2 B 1 (.slice (some ⟨r3, 0, none⟩) pan.length c3) gl (go + i) (.int .i64 (l0 + (i : Int))) wr.drew := ⟨(kx.keep (Gr.dr _)).1.2 1 _ rfl, (Gr.dr _).keep cl⟩
      haveI : Nonempty (AtW (Held2 B 1 (.slice (some ⟨r3, 0, none⟩) pan.length c3) gl (go + i) (.int .i64 (l0 + (i : Int))))) := ⟨⟨_, hF⟩⟩
      have z0 : ∀ u : AtW (Held2 B 1 (.slice (some ⟨r3, 0, none⟩) pan.length c3) gl (go + i) (.int .i64 (l0 + (i : Int)))), u.val.cell? ⟨B, 1, none⟩ = some (.slice (some ⟨r3, 0, none⟩) pan.length c3) := fun u => u.property.1
      have z1 : ∀ u : AtW (Held2 B 1 (.slice (some ⟨r3, 0, none⟩) pan.length c3) gl (go + i) (.int .i64 (l0 + (i : Int)))), u.val.cell? ⟨gl, go + i, none⟩ = some (.int .i64 (l0 + (i : Int))) := fun u => u.property.2
      refine wp_region_ord (fun w' => ∃ u : AtW (Held2 B 1 (.slice (some ⟨r3, 0, none⟩) pan.length c3) gl (go + i) (.int .i64 (l0 + (i : Int)))), w' = u.val) 8 ((List.range' 0 8).map (fun i => (i, true)) ++ []) (by kernel_rfl) (by kernel_rfl) ⟨⟨_, hF⟩, rfl⟩ ?_
      refine ord_seg 0 8 (by kernel_rfl) (fun d _ _ _ _ h => by cases d <;> exact h) ?_
      simp only [List.drop_zero, List.take_succ_cons, List.take_zero]
      repeat (go_big_quiet_step (fail))
      refine wpQuiet_nil ?_
      clear z0 z1
      show wpList _ _ _ (List.drop 8 _) _ _
      simp only [List.drop_succ_cons, List.drop_zero]
      have w0 := (kp.keep (Gr.dr wr)).1.2 1 (.int .i64 yp) (by simp [mjl])
      have z0 := (kp.keep (Gr.dr wr)).2 1
      go_upto_region 21 with fail
      refine wp_abs (fun V => Gr w V ∧ Own V w.heap.size [.int .i64 lo, .int .i64 hi] ∧ Own V (w.heap.size + 1 + 1) [.int .i64 0, .int .i64 0] ∧ Own V B (XCells tab pan top bot r3 r7 r11 c3 c7 c11 slo false xh) ∧ Own V r3 ((pan.set 1 (l0 + (i : Int))).map (fun n => Value.int .i64 n)) ∧ Own V r11 ((bot.set 0 yb).map (fun n => Value.int .i64 n)) ∧ IRow V (some ⟨gl, go, none⟩) (upL l0 NL) ∧ IRow V (some ⟨fb0, fo0, none⟩) (upL g0 NF)) ⟨(gK.tr (Gr.dr _)).setCell le3 _, (ks.keep (Gr.dr _)).other lr3, (kz.keep (Gr.dr _)).other e103, (kx.keep (Gr.dr _)).other e3B.symm, by have h9 := (kp.keep (Gr.dr _)).set (i := 1) (v := .int .i64 (l0 + (i : Int))) (by simpa using mjl); rw [map_set] at h9; exact h9, (kb.keep (Gr.dr _)).other n3b.symm, (kl.grow (Gr.dr _)).other nl t3, (kf.grow (Gr.dr _)).other nf t3⟩ ?_
      clear gK ks kz kx kp kb kl kf w0 z0 hF
      rintro wr ⟨gK, ks, kz, kx, kp, kb, kl, kf⟩
      clear cl cf
      obtain ⟨_, _, e9, _, cf⟩ := IRow.get kf (upL_get hkt)
      cases e9
      try simp only [Nat.zero_add] at cf
      go_upto_region 21 with fail
      have hF : Held2 B 4 (.slice (some ⟨r11, 0, none⟩) bot.length c11) fb0 (fo0 + k) (.int .i64 (g0 + (k : Int))) wr.drew := ⟨(kx.keep (Gr.dr _)).1.2 4 _ rfl, (Gr.dr _).keep cf⟩
      haveI : Nonempty (AtW (Held2 B 4 (.slice (some ⟨r11, 0, none⟩) bot.length c11) fb0 (fo0 + k) (.int .i64 (g0 + (k : Int))))) := ⟨⟨_, hF⟩⟩
      have z0 : ∀ u : AtW (Held2 B 4 (.slice (some ⟨r11, 0, none⟩) bot.length c11) fb0 (fo0 + k) (.int .i64 (g0 + (k : Int)))), u.val.cell? ⟨B, 4, none⟩ = some (.slice (some ⟨r11, 0, none⟩) bot.length c11) := fun u => u.property.1
      have z1 : ∀ u : AtW (Held2 B 4 (.slice (some ⟨r11, 0, none⟩) bot.length c11) fb0 (fo0 + k) (.int .i64 (g0 + (k : Int)))), u.val.cell? ⟨fb0, fo0 + k, none⟩ = some (.int .i64 (g0 + (k : Int))) := fun u => u.property.2
      refine wp_region_ord (fun w' => ∃ u : AtW (Held2 B 4 (.slice (some ⟨r11, 0, none⟩) bot.length c11) fb0 (fo0 + k) (.int .i64 (g0 + (k : Int)))), w' = u.val) 7 ((List.range' 0 7).map (fun i => (i, true)) ++ []) (by kernel_rfl) (by kernel_rfl) ⟨⟨_, hF⟩, rfl⟩ ?_
      refine ord_seg 0 7 (by kernel_rfl) (fun d _ _ _ _ h => by cases d <;> exact h) ?_
      simp only [List.drop_zero, List.take_succ_cons, List.take_zero]
      repeat (go_big_quiet_step (fail))
      refine wpQuiet_nil ?_
      clear z0 z1
      show wpList _ _ _ (List.drop 7 _) _ _
      simp only [List.drop_succ_cons, List.drop_zero]
      have w0 := (kb.keep (Gr.dr wr)).1.2 0 (.int .i64 yb) (by simp [mql])
      have z0 := (kb.keep (Gr.dr wr)).2 0
      go_upto_region 22 with fail
      refine wp_abs (fun V => Gr w V ∧ Own V w.heap.size [.int .i64 lo, .int .i64 hi] ∧ Own V (w.heap.size + 1 + 1) [.int .i64 0, .int .i64 0] ∧ Own V B (XCells tab pan top bot r3 r7 r11 c3 c7 c11 slo false xh) ∧ Own V r3 ((pan.set 1 (l0 + (i : Int))).map (fun n => Value.int .i64 n)) ∧ Own V r11 ((bot.set 0 (g0 + (k : Int))).map (fun n => Value.int .i64 n)) ∧ IRow V (some ⟨gl, go, none⟩) (upL l0 NL) ∧ IRow V (some ⟨fb0, fo0, none⟩) (upL g0 NF)) ⟨(gK.tr (Gr.dr _)).setCell le11 _, (ks.keep (Gr.dr _)).other lr11, (kz.keep (Gr.dr _)).other e1011, (kx.keep (Gr.dr _)).other e11B.symm, (kp.keep (Gr.dr _)).other n3b, by have h9 := (kb.keep (Gr.dr _)).set (i := 0) (v := .int .i64 (g0 + (k : Int))) (by simpa using mql); rw [map_set] at h9; exact h9, (kl.grow (Gr.dr _)).other nl t11, (kf.grow (Gr.dr _)).other nf t11⟩ ?_
      clear gK ks kz kx kp kb kl kf w0 z0 hF
      rintro V1 ⟨gK, ks, kz, kx, kp, kb, kl, kf⟩
      have PC := Lib.hid (fun (W' : World) (hr : IRow W' (some ⟨r3, 0, none⟩) (pan.set 1 (l0 + (i : Int)))) (h7 : True) (hs : IRow W' (some ⟨r11, 0, none⟩) (bot.set 0 (g0 + (k : Int)))) => show Calls Try.prog 72 #[.agg #[.int .i64 tab, .slice (some ⟨r3, 0, none⟩) pan.length c3, .int .i64 xh, .slice (some ⟨r7, 0, none⟩) top.length c7, .slice (some ⟨r11, 0, none⟩) bot.length c11, .int .i64 slo, .bool false], .bool false, .bool true, .int .i64 c] W' (fun e w' => e = .returned (.int .i64 nv) ∧ Gr W' w') from by
        have h := refGapOut_any tab xh slo (pan.set 1 (l0 + (i : Int))) top (bot.set 0 (g0 + (k : Int))) (some ⟨r3, 0, none⟩) (some ⟨r7, 0, none⟩) (some ⟨r11, 0, none⟩) c3 c7 c11 false (l0 + (i : Int)) (g0 + (k : Int)) c nv (by rw [← hnv]; unfold wF; omega) (by simp [mjl]) (by simp [mql]) (by omega) (by omega) (by omega) (by omega) c0 (by omega) W' hr hs
        rw [set_len4, set_len4] at h
        exact h)
      have x0 := kx.1.2 0 _ rfl
      have x1 := kx.1.2 1 _ rfl
      have x2 := kx.1.2 2 _ rfl
      have x3 := kx.1.2 3 _ rfl
      have x4 := kx.1.2 4 _ rfl
      have x5 := kx.1.2 5 _ rfl
      have x6 := kx.1.2 6 _ rfl
      have HNV := Lib.hid hnv
      clear hnv cf
      go_wp2_with (first
        | (go_at_call 72; refine (PC.out _ (Own.row kp (by rw [set_len4]; omega)) trivial (Own.row kb (by rw [set_len4]; omega))).mono ?_; rintro e w4 ⟨rfl, g4⟩; replace gK := gK.tr g4; replace ks := ks.keep g4; replace kz := kz.keep g4; replace kx := kx.keep g4; replace kp := kp.keep g4; replace kb := kb.keep g4; replace kl := kl.grow g4; replace kf := kf.grow g4; clear x0 x1 x2 x3 x4 x5 x6 PC; have s0 := ks.1.2 0 _ rfl; have s1 := ks.1.2 1 _ rfl)
        | (go_at_call 26; refine (span02_any _ _ _).mono ?_; rintro e w5 ⟨rfl, g5⟩; replace gK := gK.tr g5; replace ks := ks.keep g5; replace kz := kz.keep g5; replace kx := kx.keep g5; replace kp := kp.keep g5; replace kb := kb.keep g5; replace kl := kl.grow g5; replace kf := kf.grow g5; clear s0 s1; have s0 := ks.1.2 0 _ rfl; have s1 := ks.1.2 1 _ rfl; have z0 := ks.2 0; have z1 := ks.2 1))
      go_roundw
      case rel => exact Lib.hid ⟨k + 1, _, _, by omega, by go_num, ⟨(gK.setCell (p := ⟨w.heap.size, 0, none⟩) (Nat.le_refl _) _).setCell (p := ⟨w.heap.size, 1, none⟩) (Nat.le_refl _) _, (ks.set (i := 0) (by simp)).set (i := 1) (by simp), (kz.other e56.symm).other e56.symm, ⟨_, (kx.other e5B.symm).other e5B.symm⟩, ⟨_, (kp.other lr3.symm).other lr3.symm⟩, ⟨_, (kb.other lr11.symm).other lr11.symm⟩, (kl.other nl t5).other nl t5, (kf.other nf t5).other nf t5⟩, HV.out⟩
      case measure => simp [intOf]; omega

def WidPostE6 (sl sh off c n f : Int) (w : World) (e : Ending) (w' : World) : Prop := ∃ lo hi, e = .returned (.agg #[.int .i64 lo, .int .i64 hi]) ∧ Gr w w' ∧ InvW (wF (arLo n off 1) (arLo f off 0) c) (arN f off 0) sl sh (arN n off 1) 0 lo hi

set_option maxRecDepth 100000 in
set_option maxHeartbeats 8000000 in
theorem widened_E6 (tab hei slo : Int) (pan top bot : List Int) (pa ta ba : Option Addr) (pc tc bc : Nat) (G : GoodB tab hei slo pan top bot false) (off c sl sh : Int) (o0 : 0 ≤ off) (o1 : off ≤ 5) (c0 : 0 ≤ c) (c1 : c ≤ 10000) (n : Int) (f : Int) (hx : pan[0]? = some n) (hf : top[1]? = some f) (w : World) (hp : IRow w pa pan) (ht : IRow w ta top) (hb : IRow w ba bot) :
    Calls Try.prog 27 #[.agg #[.int .i64 sl, .int .i64 sh], .agg #[.int .i64 tab, .slice pa pan.length pc, .int .i64 hei, .slice ta top.length tc, .slice ba bot.length bc, .int .i64 slo, .bool false], .int .i64 6, .int .i64 c, .int .i64 off] w (WidPostE6 sl sh off c n f w) := by
  have gg := ((Gr.al w (.cells #[.int .i64 sl, .int .i64 sh] 37)).tr (Gr.al _ (.cells #[.int .i64 tab, .slice pa pan.length pc, .int .i64 hei, .slice ta top.length tc, .slice ba bot.length bc, .int .i64 slo, .bool false] 24))).tr (Gr.al _ (.cells #[.int .i64 0, .int .i64 0] 37))
  have h5 := (Own.new w [.int .i64 sl, .int .i64 sh] 37 w.heap.size rfl).keep ((Gr.al _ (.cells #[.int .i64 tab, .slice pa pan.length pc, .int .i64 hei, .slice ta top.length tc, .slice ba bot.length bc, .int .i64 slo, .bool false] 24)).tr (Gr.al _ (.cells #[.int .i64 0, .int .i64 0] 37)))
  have h6 := (Box.new (w.alloc (.cells #[.int .i64 sl, .int .i64 sh] 37)) [.int .i64 tab, .slice pa pan.length pc, .int .i64 hei, .slice ta top.length tc, .slice ba bot.length bc, .int .i64 slo, .bool false] 24 (w.heap.size + 1) (by simp)).keep (Gr.al _ (.cells #[.int .i64 0, .int .i64 0] 37))
  have h10 := Own.new ((w.alloc (.cells #[.int .i64 sl, .int .i64 sh] 37)).alloc (.cells #[.int .i64 tab, .slice pa pan.length pc, .int .i64 hei, .slice ta top.length tc, .slice ba bot.length bc, .int .i64 slo, .bool false] 24)) [.int .i64 0, .int .i64 0] 37 (w.heap.size + 1 + 1) (by simp)
  have HP := Lib.hid hp
  have HT := Lib.hid ht
  have HB := Lib.hid hb
  have HG := Lib.hid G
  clear hp ht hb
  obtain ⟨b0, b1, b2, b3, b4, b5, b6⟩ := h6.c7
  go_enter Try.func27, Try.ntmps27
  go_upto_region 2 with (go_at_call 16; refine (own02_own tab hei slo pan top bot pa ta ba pc tc bc false (by rw [HG.out.l4]; omega) (by rw [HG.out.t2]; omega) (by rw [HG.out.b2]; omega) _ (HP.out.grow gg) (HT.out.grow gg) (HB.out.grow gg)).mono ?_; rintro e w1 ⟨r3, c3, r7, c7, r11, c11, rfl, g1, o3, o7, o11, ⟨n3, n7, n11⟩, n37, n3b, n7b⟩)
  obtain ⟨B, hB⟩ : ∃ B, B = w1.heap.size := ⟨_, rfl⟩
  have ho := Own.new w1 (XCells tab pan top bot r3 r7 r11 c3 c7 c11 slo false hei) 24 B hB
  have gq := g1.tr (Gr.al w1 (.cells (XCells tab pan top bot r3 r7 r11 c3 c7 c11 slo false hei).toArray 24))
  have gq1 := Gr.al w1 (.cells (XCells tab pan top bot r3 r7 r11 c3 c7 c11 slo false hei).toArray 24)
  have l3 : r3 < B := hB ▸ o3.1.1
  have l11 : r11 < B := hB ▸ o11.1.1
  have l6 := h6.1
  have l10 := h10.1.1
  have lB : w.heap.size + 1 + 1 < B := by have := g1.size; omega
  have m3 : w.heap.size + 1 + 1 < r3 := by omega
  have m11 : w.heap.size + 1 + 1 < r11 := by omega
  rw [← hB]
  refine wp_abs (fun X => Gr w X ∧ Own X w.heap.size [.int .i64 sl, .int .i64 sh] ∧ Box X (w.heap.size + 1) [.int .i64 tab, .slice pa pan.length pc, .int .i64 hei, .slice ta top.length tc, .slice ba bot.length bc, .int .i64 slo, .bool false] ∧ Own X (w.heap.size + 1 + 1) [.int .i64 0, .int .i64 0] ∧ Own X B (XCells tab pan top bot r3 r7 r11 c3 c7 c11 slo false hei) ∧ Own X r3 (pan.map (fun n => Value.int .i64 n)) ∧ Own X r11 (bot.map (fun n => Value.int .i64 n)) ∧ B < X.heap.size) ⟨gg.tr gq, h5.keep gq, h6.keep gq, h10.keep gq, ho, o3.keep gq1, o11.keep gq1, ho.1.1⟩ ?_
  clear gg h5 h6 h10 ho o3 o7 o11 gq gq1 hB n3 n7 n11 n37 n7b g1 l6 l10 b0 b1 b2 b3 b4 b5 b6
  rintro X ⟨gX, h5, h6, h10, ho, o3, o11, lX⟩
  obtain ⟨b0, b1, b2, b3, b4, b5, b6⟩ := h6.c7
  obtain ⟨nn0, nn1⟩ := in_at HG.out.gpan hx
  have hpl : 4 ≤ pan.length ∧ pan.length ≤ 4 := by rw [HG.out.l4]; omega
  obtain ⟨pb, po, rfl, _, hc⟩ := IRow.get (HP.out.grow gX) hx
  try simp only [Nat.add_zero] at hc
  obtain ⟨ff0, ff1⟩ := in_at HG.out.gtop hf
  obtain ⟨fb, fo, rfl, _, hd⟩ := IRow.get (HT.out.grow gX) hf
  try simp only [Nat.add_zero] at hd
  have hbl : 2 ≤ bot.length ∧ bot.length ≤ 2 := by rw [HG.out.b2]; omega
  have htl : 2 ≤ top.length ∧ top.length ≤ 2 := by rw [HG.out.t2]; omega
  have hbp : (1 : Int) < (bot.length : Int) := by omega
  have hbq : (0 : Int) < (bot.length : Int) := by omega
  have htp : (1 : Int) < (top.length : Int) := by omega
  have htq : (0 : Int) < (top.length : Int) := by omega
  have hbr : 1 < bot.length ∧ 0 < bot.length := by omega
  have htr : 1 < top.length ∧ 0 < top.length := by omega
  skip
  have lr3 : w.heap.size ≠ r3 := by omega
  have lr11 : w.heap.size ≠ r11 := by omega
  have gA := (Gr.al X (.cells #[] 3)).tr (Gr.al _ (.cells #[.int .i64 0] 3))
  have h6 := h6.keep gA
  clear b0 b1 b2 b3 b4 b5 b6
  obtain ⟨b0, b1, b2, b3, b4, b5, b6⟩ := h6.c7
  clear hc
  obtain ⟨_, _, eq9, _, hc⟩ := IRow.get (HP.out.grow (gX.tr gA)) hx
  cases eq9
  try simp only [Nat.add_zero] at hc
  have tk : True := trivial
  go_wp2_with (first
    | (have _t := tk; clear tk _t; go_at_call 70; refine (refAround_any n off 1 (by omega) (by omega) o0 o1 (by omega) _).mono ?_; rintro e w2 ⟨la, lc, rfl, g2, rl, nl⟩; replace h6 := h6.keep g2; clear hd; obtain ⟨_, _, eq9, _, hd⟩ := IRow.get (HT.out.grow (gX.tr (gA.tr g2))) hf; cases eq9; (try simp only [Nat.add_zero] at hd); clear b0 b1 b2 b3 b4 b5 b6; obtain ⟨b0, b1, b2, b3, b4, b5, b6⟩ := h6.c7)
    | (go_at_call 70; refine (refAround_any f off 0 (by omega) (by omega) o0 o1 (by omega) _).mono ?_; rintro e w3 ⟨fa, fc, rfl, g3, rf, nf⟩))
  replace rl := rl.grow g3
  have W2 : Gr X w3 := gA.tr (g2.tr g3)
  have hfp : 0 < arN f off 0 := by unfold arN arHi arLo; omega
  obtain ⟨fb0, fo0, rfl, _, _⟩ := IRow.get rf (upL_get hfp)
  have nf : NewAt (B + 1) (some (⟨fb0, fo0, none⟩ : Addr)) := nf.le (by have := (gA.tr g2).size; omega)
  obtain ⟨NF, hNF⟩ : ∃ k, arN f off 0 = k := ⟨_, rfl⟩
  obtain ⟨g0, hg0⟩ : ∃ k, arLo f off 0 = k := ⟨_, rfl⟩
  have ng : 0 ≤ g0 ∧ g0 ≤ f ∧ 0 < NF ∧ NF ≤ 11 ∧ g0 + (NF : Int) ≤ 3001 := by unfold arN arHi arLo at hNF; unfold arLo at hg0; omega
  have hlp : 0 < arN n off 1 := by unfold arN arHi arLo; omega
  obtain ⟨gl, go, rfl, _, _⟩ := IRow.get rl (upL_get hlp)
  have nl : NewAt (B + 1) (some (⟨gl, go, none⟩ : Addr)) := nl.le (by have := gA.size; omega)
  obtain ⟨NL, hNL⟩ : ∃ k, arN n off 1 = k := ⟨_, rfl⟩
  obtain ⟨l0, hl0⟩ : ∃ k, arLo n off 1 = k := ⟨_, rfl⟩
  have nn : 1 ≤ l0 ∧ l0 ≤ n ∧ 0 < NL ∧ NL ≤ 11 ∧ l0 + (NL : Int) ≤ 3001 := by unfold arN arHi arLo at hNL; unfold arLo at hl0; omega
  rw [show arL n off 1 = upL l0 NL by unfold arL; rw [hNL, hl0]] at rl
  rw [show arL f off 0 = upL g0 NF by unfold arL; rw [hNF, hg0]] at rf
  rw [hNL, hNF]
  have hsp := set_self pan 0
  have hsb := set_self bot 1
  have K0 : WidK w w.heap.size (w.heap.size + 1 + 1) B r3 r11 (XCells tab pan top bot r3 r7 r11 c3 c7 c11 slo false) pan bot 0 1 (some ⟨gl, go, none⟩) (some ⟨fb0, fo0, none⟩) (upL l0 NL) (upL g0 NF) sl sh w3 := ⟨gX.tr W2, h5.keep W2, h10.keep W2, ⟨_, ho.keep W2⟩, ⟨pan.getD 0 0, by rw [← hsp]; exact o3.keep W2⟩, ⟨bot.getD 1 0, by rw [← hsb]; exact o11.keep W2⟩, rl, rf⟩
  have HE := (Lib.hid (And.intro (And.intro hNL hl0) (And.intro hNF hg0)))
  have HX := Lib.hid hx
  clear hsp hsb rl rf h5 h6 h10 ho o3 o11 b0 b1 b2 b3 b4 b5 b6 gX gA g2 g3 hNF hg0 hfp W2 hNL hl0 hlp hc
  have e56 : w.heap.size ≠ w.heap.size + 1 + 1 := by omega
  have e5B : w.heap.size ≠ B := by omega
  have e10B : w.heap.size + 1 + 1 ≠ B := by omega
  have e103 : w.heap.size + 1 + 1 ≠ r3 := by omega
  have e1011 : w.heap.size + 1 + 1 ≠ r11 := by omega
  have e3B : r3 ≠ B := by omega
  have e11B : r11 ≠ B := by omega
  have le3 : w.heap.size ≤ r3 := by omega
  have le11 : w.heap.size ≤ r11 := by omega
  have leB : w.heap.size ≤ B := by omega
  have t3 : r3 < B + 1 := by omega
  have t11 : r11 < B + 1 := by omega
  have t5 : w.heap.size < B + 1 := by omega
  go_loopw [15] (fun t wr => Hid (∃ (i : Nat) (lo hi : Int), i ≤ NL ∧ t = .int .i64 i ∧ WidK w w.heap.size (w.heap.size + 1 + 1) B r3 r11 (XCells tab pan top bot r3 r7 r11 c3 c7 c11 slo false) pan bot 0 1 (some ⟨gl, go, none⟩) (some ⟨fb0, fo0, none⟩) (upL l0 NL) (upL g0 NF) lo hi wr ∧ InvW (wF l0 g0 c) NF sl sh i 0 lo hi)) (fun t _ => NL - (intOf t).toNat)
  case atStart => exact Lib.hid ⟨0, sl, sh, Nat.zero_le _, rfl, K0, InvW.start _ _ _ _⟩
  case round =>
    clear K0
    obtain ⟨i, lo, hi, hiN, rfl, K, V⟩ := hrel.out
    clear hrel
    by_cases hlt : i < NL
    case neg =>
      obtain rfl : i = NL := by omega
      have s5 := K.s.1.2 0 _ rfl
      have s6 := K.s.1.2 1 _ rfl
      obtain ⟨y0, y1⟩ := K.z.1.c2
      have z0 := K.z.2 0
      have z1 := K.z.2 1
      have HV := Lib.hid V
      have gK := K.g
      have hle10 : w.heap.size ≤ w.heap.size + 1 + 1 := by omega
      clear V K
      go_wp2
      refine bodyPost_ret (v := .agg #[.int .i64 lo, .int .i64 hi]) (by simp [results, Try.results27, go_sem, y0, y1]) rfl ⟨lo, hi, rfl, (gK.setCell hle10 _).setCell hle10 _, ?_⟩
      have e := HE.out
      rw [e.1.1, e.1.2, e.2.1, e.2.2]
      exact HV.out
    have HV := Lib.hid V
    clear V
    have hil : (i : Int) < (NL : Int) := by omega
    go_wp2
    go_loopw [16] (fun t wr => Hid (∃ (k : Nat) (lo hi : Int), k ≤ NF ∧ t = .int .i64 k ∧ WidK w w.heap.size (w.heap.size + 1 + 1) B r3 r11 (XCells tab pan top bot r3 r7 r11 c3 c7 c11 slo false) pan bot 0 1 (some ⟨gl, go, none⟩) (some ⟨fb0, fo0, none⟩) (upL l0 NL) (upL g0 NF) lo hi wr ∧ InvW (wF l0 g0 c) NF sl sh i k lo hi)) (fun t _ => NF - (intOf t).toNat)
    case atStart => exact Lib.hid ⟨0, lo, hi, Nat.zero_le _, rfl, K, HV.out⟩
    case round =>
      clear K HV lo hi
      obtain ⟨k, lo, hi, hkN, rfl, K, V⟩ := hrel.out
      clear hrel
      by_cases hkt : k < NF
      case neg =>
        obtain rfl : k = NF := by omega
        have HV := Lib.hid V.row
        clear V
        go_wp2
        go_roundw
        case rel => exact Lib.hid ⟨i + 1, lo, hi, by omega, by go_num, K, HV.out⟩
        case measure => simp [intOf]; omega
      obtain ⟨gK, ks, kz, ⟨xh, kx⟩, ⟨yp, kp⟩, ⟨yb, kb⟩, kl, kf⟩ := K
      have hkl : (k : Int) < (NF : Int) := by omega
      obtain ⟨_, _, e9, _, cl⟩ := IRow.get kl (upL_get hlt)
      cases e9
      obtain ⟨_, _, e9, _, cf⟩ := IRow.get kf (upL_get hkt)
      cases e9
      have HV := Lib.hid (V.step hkt)
      clear V
      obtain ⟨nv, hnv⟩ : ∃ z, wF l0 g0 c i k = z := ⟨_, rfl⟩
      rw [hnv] at HV
      try simp only [Nat.zero_add] at cf
      try simp only [Nat.zero_add] at cl
      have mjl : 0 < pan.length := by omega
      have mql : 1 < bot.length := by omega
      have mjp : (0 : Int) < (pan.length : Int) := by omega
      have mqp : (1 : Int) < (bot.length : Int) := by omega
      go_upto_region 20 with fail
      have hF : Held2 B 1 (.slice (some ⟨r3, 0, none⟩) pan.length c3) gl (go + i) (.int .i64 (l0 + (i : Int))) wr.drew := ⟨(kx.keep (Gr.dr _)).1.2 1 _ rfl, (Gr.dr _).keep cl⟩
      haveI : Nonempty (AtW (Held2 B 1 (.slice (some ⟨r3, 0, none⟩) pan.length c3) gl (go + i) (.int .i64 (l0 + (i : Int))))) := ⟨⟨_, hF⟩⟩
      have z0 : ∀ u : AtW (Held2 B 1 (.slice (some ⟨r3, 0, none⟩) pan.length c3) gl (go + i) (.int .i64 (l0 + (i : Int)))), u.val.cell? ⟨B, 1, none⟩ = some (.slice (some ⟨r3, 0, none⟩) pan.length c3) := fun u => u.property.1
      have z1 : ∀ u : AtW (Held2 B 1 (.slice (some ⟨r3, 0, none⟩) pan.length c3) gl (go + i) (.int .i64 (l0 + (i : Int)))), u.val.cell? ⟨gl, go + i, none⟩ = some (.int .i64 (l0 + (i : Int))) := fun u => u.property.2
      refine wp_region_ord (fun w' => ∃ u : AtW (Held2 B 1 (.slice (some ⟨r3, 0, none⟩) pan.length c3) gl (go + i) (.int .i64 (l0 + (i : Int)))), w' = u.val) 8 ((List.range' 0 8).map (fun i => (i, true)) ++ []) (by kernel_rfl) (by kernel_rfl) ⟨⟨_, hF⟩, rfl⟩ ?_
      refine ord_seg 0 8 (by kernel_rfl) (fun d _ _ _ _ h => by cases d <;> exact h) ?_
      simp only [List.drop_zero, List.take_succ_cons, List.take_zero]
      repeat (go_big_quiet_step (fail))
      refine wpQuiet_nil ?_
      clear z0 z1
      show wpList _ _ _ (List.drop 8 _) _ _
      simp only [List.drop_succ_cons, List.drop_zero]
      have w0 := (kp.keep (Gr.dr wr)).1.2 0 (.int .i64 yp) (by simp [mjl])
      have z0 := (kp.keep (Gr.dr wr)).2 0
      go_upto_region 21 with fail
      refine wp_abs (fun V => Gr w V ∧ Own V w.heap.size [.int .i64 lo, .int .i64 hi] ∧ Own V (w.heap.size + 1 + 1) [.int .i64 0, .int .i64 0] ∧ Own V B (XCells tab pan top bot r3 r7 r11 c3 c7 c11 slo false xh) ∧ Own V r3 ((pan.set 0 (l0 + (i : Int))).map (fun n => Value.int .i64 n)) ∧ Own V r11 ((bot.set 1 yb).map (fun n => Value.int .i64 n)) ∧ IRow V (some ⟨gl, go, none⟩) (upL l0 NL) ∧ IRow V (some ⟨fb0, fo0, none⟩) (upL g0 NF)) ⟨(gK.tr (Gr.dr _)).setCell le3 _, (ks.keep (Gr.dr _)).other lr3, (kz.keep (Gr.dr _)).other e103, (kx.keep (Gr.dr _)).other e3B.symm, by have h9 := (kp.keep (Gr.dr _)).set (i := 0) (v := .int .i64 (l0 + (i : Int))) (by simpa using mjl); rw [map_set] at h9; exact h9, (kb.keep (Gr.dr _)).other n3b.symm, (kl.grow (Gr.dr _)).other nl t3, (kf.grow (Gr.dr _)).other nf t3⟩ ?_
      clear gK ks kz kx kp kb kl kf w0 z0 hF
      rintro wr ⟨gK, ks, kz, kx, kp, kb, kl, kf⟩
      clear cl cf
      obtain ⟨_, _, e9, _, cf⟩ := IRow.get kf (upL_get hkt)
      cases e9
      try simp only [Nat.zero_add] at cf
      go_upto_region 21 with fail
      have hF : Held2 B 4 (.slice (some ⟨r11, 0, none⟩) bot.length c11) fb0 (fo0 + k) (.int .i64 (g0 + (k : Int))) wr.drew := ⟨(kx.keep (Gr.dr _)).1.2 4 _ rfl, (Gr.dr _).keep cf⟩
      haveI : Nonempty (AtW (Held2 B 4 (.slice (some ⟨r11, 0, none⟩) bot.length c11) fb0 (fo0 + k) (.int .i64 (g0 + (k : Int))))) := ⟨⟨_, hF⟩⟩
      have z0 : ∀ u : AtW (Held2 B 4 (.slice (some ⟨r11, 0, none⟩) bot.length c11) fb0 (fo0 + k) (.int .i64 (g0 + (k : Int)))), u.val.cell? ⟨B, 4, none⟩ = some (.slice (some ⟨r11, 0, none⟩) bot.length c11) := fun u => u.property.1
      have z1 : ∀ u : AtW (Held2 B 4 (.slice (some ⟨r11, 0, none⟩) bot.length c11) fb0 (fo0 + k) (.int .i64 (g0 + (k : Int)))), u.val.cell? ⟨fb0, fo0 + k, none⟩ = some (.int .i64 (g0 + (k : Int))) := fun u => u.property.2
      refine wp_region_ord (fun w' => ∃ u : AtW (Held2 B 4 (.slice (some ⟨r11, 0, none⟩) bot.length c11) fb0 (fo0 + k) (.int .i64 (g0 + (k : Int)))), w' = u.val) 7 ((List.range' 0 7).map (fun i => (i, true)) ++ []) (by kernel_rfl) (by kernel_rfl) ⟨⟨_, hF⟩, rfl⟩ ?_
      refine ord_seg 0 7 (by kernel_rfl) (fun d _ _ _ _ h => by cases d <;> exact h) ?_
      simp only [List.drop_zero, List.take_succ_cons, List.take_zero]
      repeat (go_big_quiet_step (fail))
      refine wpQuiet_nil ?_
      clear z0 z1
      show wpList _ _ _ (List.drop 7 _) _ _
      simp only [List.drop_succ_cons, List.drop_zero]
      have w0 := (kb.keep (Gr.dr wr)).1.2 1 (.int .i64 yb) (by simp [mql])
      have z0 := (kb.keep (Gr.dr wr)).2 1
      go_upto_region 22 with fail
      refine wp_abs (fun V => Gr w V ∧ Own V w.heap.size [.int .i64 lo, .int .i64 hi] ∧ Own V (w.heap.size + 1 + 1) [.int .i64 0, .int .i64 0] ∧ Own V B (XCells tab pan top bot r3 r7 r11 c3 c7 c11 slo false xh) ∧ Own V r3 ((pan.set 0 (l0 + (i : Int))).map (fun n => Value.int .i64 n)) ∧ Own V r11 ((bot.set 1 (g0 + (k : Int))).map (fun n => Value.int .i64 n)) ∧ IRow V (some ⟨gl, go, none⟩) (upL l0 NL) ∧ IRow V (some ⟨fb0, fo0, none⟩) (upL g0 NF)) ⟨(gK.tr (Gr.dr _)).setCell le11 _, (ks.keep (Gr.dr _)).other lr11, (kz.keep (Gr.dr _)).other e1011, (kx.keep (Gr.dr _)).other e11B.symm, (kp.keep (Gr.dr _)).other n3b, by have h9 := (kb.keep (Gr.dr _)).set (i := 1) (v := .int .i64 (g0 + (k : Int))) (by simpa using mql); rw [map_set] at h9; exact h9, (kl.grow (Gr.dr _)).other nl t11, (kf.grow (Gr.dr _)).other nf t11⟩ ?_
      clear gK ks kz kx kp kb kl kf w0 z0 hF
      rintro V1 ⟨gK, ks, kz, kx, kp, kb, kl, kf⟩
      have PC := Lib.hid (fun (W' : World) (hr : IRow W' (some ⟨r3, 0, none⟩) (pan.set 0 (l0 + (i : Int)))) (h7 : True) (hs : IRow W' (some ⟨r11, 0, none⟩) (bot.set 1 (g0 + (k : Int)))) => show Calls Try.prog 72 #[.agg #[.int .i64 tab, .slice (some ⟨r3, 0, none⟩) pan.length c3, .int .i64 xh, .slice (some ⟨r7, 0, none⟩) top.length c7, .slice (some ⟨r11, 0, none⟩) bot.length c11, .int .i64 slo, .bool false], .bool false, .bool false, .int .i64 c] W' (fun e w' => e = .returned (.int .i64 nv) ∧ Gr W' w') from by
        have h := refGapIn_any tab xh slo (pan.set 0 (l0 + (i : Int))) top (bot.set 1 (g0 + (k : Int))) (some ⟨r3, 0, none⟩) (some ⟨r7, 0, none⟩) (some ⟨r11, 0, none⟩) c3 c7 c11 false (l0 + (i : Int)) (g0 + (k : Int)) c nv (by rw [← hnv]; unfold wF; omega) (by simp [mjl]) (by simp [mql]) (by omega) (by omega) (by omega) (by omega) c0 (by omega) W' hr hs
        rw [set_len4, set_len4] at h
        exact h)
      have x0 := kx.1.2 0 _ rfl
      have x1 := kx.1.2 1 _ rfl
      have x2 := kx.1.2 2 _ rfl
      have x3 := kx.1.2 3 _ rfl
      have x4 := kx.1.2 4 _ rfl
      have x5 := kx.1.2 5 _ rfl
      have x6 := kx.1.2 6 _ rfl
      have HNV := Lib.hid hnv
      clear hnv cf
      go_wp2_with (first
        | (go_at_call 72; refine (PC.out _ (Own.row kp (by rw [set_len4]; omega)) trivial (Own.row kb (by rw [set_len4]; omega))).mono ?_; rintro e w4 ⟨rfl, g4⟩; replace gK := gK.tr g4; replace ks := ks.keep g4; replace kz := kz.keep g4; replace kx := kx.keep g4; replace kp := kp.keep g4; replace kb := kb.keep g4; replace kl := kl.grow g4; replace kf := kf.grow g4; clear x0 x1 x2 x3 x4 x5 x6 PC; have s0 := ks.1.2 0 _ rfl; have s1 := ks.1.2 1 _ rfl)
        | (go_at_call 26; refine (span02_any _ _ _).mono ?_; rintro e w5 ⟨rfl, g5⟩; replace gK := gK.tr g5; replace ks := ks.keep g5; replace kz := kz.keep g5; replace kx := kx.keep g5; replace kp := kp.keep g5; replace kb := kb.keep g5; replace kl := kl.grow g5; replace kf := kf.grow g5; clear s0 s1; have s0 := ks.1.2 0 _ rfl; have s1 := ks.1.2 1 _ rfl; have z0 := ks.2 0; have z1 := ks.2 1))
      go_roundw
      case rel => exact Lib.hid ⟨k + 1, _, _, by omega, by go_num, ⟨(gK.setCell (p := ⟨w.heap.size, 0, none⟩) (Nat.le_refl _) _).setCell (p := ⟨w.heap.size, 1, none⟩) (Nat.le_refl _) _, (ks.set (i := 0) (by simp)).set (i := 1) (by simp), (kz.other e56.symm).other e56.symm, ⟨_, (kx.other e5B.symm).other e5B.symm⟩, ⟨_, (kp.other lr3.symm).other lr3.symm⟩, ⟨_, (kb.other lr11.symm).other lr11.symm⟩, (kl.other nl t5).other nl t5, (kf.other nf t5).other nf t5⟩, HV.out⟩
      case measure => simp [intOf]; omega

def WidPostE7 (sl sh off c n f : Int) (w : World) (e : Ending) (w' : World) : Prop := ∃ lo hi, e = .returned (.agg #[.int .i64 lo, .int .i64 hi]) ∧ Gr w w' ∧ InvW (wF (arLo n off 1) (arLo f off 0) c) (arN f off 0) sl sh (arN n off 1) 0 lo hi

set_option maxRecDepth 100000 in
set_option maxHeartbeats 8000000 in
theorem widened_E7 (tab hei slo : Int) (pan top bot : List Int) (pa ta ba : Option Addr) (pc tc bc : Nat) (opn : Bool) (G : GoodB tab hei slo pan top bot opn) (off c sl sh : Int) (o0 : 0 ≤ off) (o1 : off ≤ 5) (c0 : 0 ≤ c) (c1 : c ≤ 10000) (n : Int) (f : Int) (hx : pan[1]? = some n) (hf : bot[0]? = some f) (w : World) (hp : IRow w pa pan) (ht : IRow w ta top) (hb : IRow w ba bot) :
    Calls Try.prog 27 #[.agg #[.int .i64 sl, .int .i64 sh], .agg #[.int .i64 tab, .slice pa pan.length pc, .int .i64 hei, .slice ta top.length tc, .slice ba bot.length bc, .int .i64 slo, .bool opn], .int .i64 7, .int .i64 c, .int .i64 off] w (WidPostE7 sl sh off c n f w) := by
  have gg := ((Gr.al w (.cells #[.int .i64 sl, .int .i64 sh] 37)).tr (Gr.al _ (.cells #[.int .i64 tab, .slice pa pan.length pc, .int .i64 hei, .slice ta top.length tc, .slice ba bot.length bc, .int .i64 slo, .bool opn] 24))).tr (Gr.al _ (.cells #[.int .i64 0, .int .i64 0] 37))
  have h5 := (Own.new w [.int .i64 sl, .int .i64 sh] 37 w.heap.size rfl).keep ((Gr.al _ (.cells #[.int .i64 tab, .slice pa pan.length pc, .int .i64 hei, .slice ta top.length tc, .slice ba bot.length bc, .int .i64 slo, .bool opn] 24)).tr (Gr.al _ (.cells #[.int .i64 0, .int .i64 0] 37)))
  have h6 := (Box.new (w.alloc (.cells #[.int .i64 sl, .int .i64 sh] 37)) [.int .i64 tab, .slice pa pan.length pc, .int .i64 hei, .slice ta top.length tc, .slice ba bot.length bc, .int .i64 slo, .bool opn] 24 (w.heap.size + 1) (by simp)).keep (Gr.al _ (.cells #[.int .i64 0, .int .i64 0] 37))
  have h10 := Own.new ((w.alloc (.cells #[.int .i64 sl, .int .i64 sh] 37)).alloc (.cells #[.int .i64 tab, .slice pa pan.length pc, .int .i64 hei, .slice ta top.length tc, .slice ba bot.length bc, .int .i64 slo, .bool opn] 24)) [.int .i64 0, .int .i64 0] 37 (w.heap.size + 1 + 1) (by simp)
  have HP := Lib.hid hp
  have HT := Lib.hid ht
  have HB := Lib.hid hb
  have HG := Lib.hid G
  clear hp ht hb
  obtain ⟨b0, b1, b2, b3, b4, b5, b6⟩ := h6.c7
  go_enter Try.func27, Try.ntmps27
  go_upto_region 2 with (go_at_call 16; refine (own02_own tab hei slo pan top bot pa ta ba pc tc bc opn (by rw [HG.out.l4]; omega) (by rw [HG.out.t2]; omega) (by rw [HG.out.b2]; omega) _ (HP.out.grow gg) (HT.out.grow gg) (HB.out.grow gg)).mono ?_; rintro e w1 ⟨r3, c3, r7, c7, r11, c11, rfl, g1, o3, o7, o11, ⟨n3, n7, n11⟩, n37, n3b, n7b⟩)
  obtain ⟨B, hB⟩ : ∃ B, B = w1.heap.size := ⟨_, rfl⟩
  have ho := Own.new w1 (XCells tab pan top bot r3 r7 r11 c3 c7 c11 slo opn hei) 24 B hB
  have gq := g1.tr (Gr.al w1 (.cells (XCells tab pan top bot r3 r7 r11 c3 c7 c11 slo opn hei).toArray 24))
  have gq1 := Gr.al w1 (.cells (XCells tab pan top bot r3 r7 r11 c3 c7 c11 slo opn hei).toArray 24)
  have l3 : r3 < B := hB ▸ o3.1.1
  have l11 : r11 < B := hB ▸ o11.1.1
  have l6 := h6.1
  have l10 := h10.1.1
  have lB : w.heap.size + 1 + 1 < B := by have := g1.size; omega
  have m3 : w.heap.size + 1 + 1 < r3 := by omega
  have m11 : w.heap.size + 1 + 1 < r11 := by omega
  rw [← hB]
  refine wp_abs (fun X => Gr w X ∧ Own X w.heap.size [.int .i64 sl, .int .i64 sh] ∧ Box X (w.heap.size + 1) [.int .i64 tab, .slice pa pan.length pc, .int .i64 hei, .slice ta top.length tc, .slice ba bot.length bc, .int .i64 slo, .bool opn] ∧ Own X (w.heap.size + 1 + 1) [.int .i64 0, .int .i64 0] ∧ Own X B (XCells tab pan top bot r3 r7 r11 c3 c7 c11 slo opn hei) ∧ Own X r3 (pan.map (fun n => Value.int .i64 n)) ∧ Own X r11 (bot.map (fun n => Value.int .i64 n)) ∧ B < X.heap.size) ⟨gg.tr gq, h5.keep gq, h6.keep gq, h10.keep gq, ho, o3.keep gq1, o11.keep gq1, ho.1.1⟩ ?_
  clear gg h5 h6 h10 ho o3 o7 o11 gq gq1 hB n3 n7 n11 n37 n7b g1 l6 l10 b0 b1 b2 b3 b4 b5 b6
  rintro X ⟨gX, h5, h6, h10, ho, o3, o11, lX⟩
  obtain ⟨b0, b1, b2, b3, b4, b5, b6⟩ := h6.c7
  obtain ⟨nn0, nn1⟩ := in_at HG.out.gpan hx
  have hpl : 4 ≤ pan.length ∧ pan.length ≤ 4 := by rw [HG.out.l4]; omega
  obtain ⟨pb, po, rfl, _, hc⟩ := IRow.get (HP.out.grow gX) hx
  try simp only [Nat.add_zero] at hc
  obtain ⟨ff0, ff1⟩ := in_at HG.out.gbot hf
  obtain ⟨fb, fo, rfl, _, hd⟩ := IRow.get (HB.out.grow gX) hf
  try simp only [Nat.add_zero] at hd
  have hbl : 2 ≤ bot.length ∧ bot.length ≤ 2 := by rw [HG.out.b2]; omega
  have htl : 2 ≤ top.length ∧ top.length ≤ 2 := by rw [HG.out.t2]; omega
  have hbp : (1 : Int) < (bot.length : Int) := by omega
  have hbq : (0 : Int) < (bot.length : Int) := by omega
  have htp : (1 : Int) < (top.length : Int) := by omega
  have htq : (0 : Int) < (top.length : Int) := by omega
  have hbr : 1 < bot.length ∧ 0 < bot.length := by omega
  have htr : 1 < top.length ∧ 0 < top.length := by omega
  skip
  have lr3 : w.heap.size ≠ r3 := by omega
  have lr11 : w.heap.size ≠ r11 := by omega
  have gA := (Gr.al X (.cells #[] 3)).tr (Gr.al _ (.cells #[.int .i64 0] 3))
  have h6 := h6.keep gA
  clear b0 b1 b2 b3 b4 b5 b6
  obtain ⟨b0, b1, b2, b3, b4, b5, b6⟩ := h6.c7
  clear hc
  obtain ⟨_, _, eq9, _, hc⟩ := IRow.get (HP.out.grow (gX.tr gA)) hx
  cases eq9
  try simp only [Nat.add_zero] at hc
  have tk : True := trivial
  go_wp2_with (first
    | (have _t := tk; clear tk _t; go_at_call 70; refine (refAround_any n off 1 (by omega) (by omega) o0 o1 (by omega) _).mono ?_; rintro e w2 ⟨la, lc, rfl, g2, rl, nl⟩; replace h6 := h6.keep g2; clear hd; obtain ⟨_, _, eq9, _, hd⟩ := IRow.get (HB.out.grow (gX.tr (gA.tr g2))) hf; cases eq9; (try simp only [Nat.add_zero] at hd); clear b0 b1 b2 b3 b4 b5 b6; obtain ⟨b0, b1, b2, b3, b4, b5, b6⟩ := h6.c7)
    | (go_at_call 70; refine (refAround_any f off 0 (by omega) (by omega) o0 o1 (by omega) _).mono ?_; rintro e w3 ⟨fa, fc, rfl, g3, rf, nf⟩))
  replace rl := rl.grow g3
  have W2 : Gr X w3 := gA.tr (g2.tr g3)
  have hfp : 0 < arN f off 0 := by unfold arN arHi arLo; omega
  obtain ⟨fb0, fo0, rfl, _, _⟩ := IRow.get rf (upL_get hfp)
  have nf : NewAt (B + 1) (some (⟨fb0, fo0, none⟩ : Addr)) := nf.le (by have := (gA.tr g2).size; omega)
  obtain ⟨NF, hNF⟩ : ∃ k, arN f off 0 = k := ⟨_, rfl⟩
  obtain ⟨g0, hg0⟩ : ∃ k, arLo f off 0 = k := ⟨_, rfl⟩
  have ng : 0 ≤ g0 ∧ g0 ≤ f ∧ 0 < NF ∧ NF ≤ 11 ∧ g0 + (NF : Int) ≤ 3001 := by unfold arN arHi arLo at hNF; unfold arLo at hg0; omega
  have hlp : 0 < arN n off 1 := by unfold arN arHi arLo; omega
  obtain ⟨gl, go, rfl, _, _⟩ := IRow.get rl (upL_get hlp)
  have nl : NewAt (B + 1) (some (⟨gl, go, none⟩ : Addr)) := nl.le (by have := gA.size; omega)
  obtain ⟨NL, hNL⟩ : ∃ k, arN n off 1 = k := ⟨_, rfl⟩
  obtain ⟨l0, hl0⟩ : ∃ k, arLo n off 1 = k := ⟨_, rfl⟩
  have nn : 1 ≤ l0 ∧ l0 ≤ n ∧ 0 < NL ∧ NL ≤ 11 ∧ l0 + (NL : Int) ≤ 3001 := by unfold arN arHi arLo at hNL; unfold arLo at hl0; omega
  rw [show arL n off 1 = upL l0 NL by unfold arL; rw [hNL, hl0]] at rl
  rw [show arL f off 0 = upL g0 NF by unfold arL; rw [hNF, hg0]] at rf
  rw [hNL, hNF]
  have hsp := set_self pan 1
  have hsb := set_self bot 0
  have K0 : WidK w w.heap.size (w.heap.size + 1 + 1) B r3 r11 (XCells tab pan top bot r3 r7 r11 c3 c7 c11 slo opn) pan bot 1 0 (some ⟨gl, go, none⟩) (some ⟨fb0, fo0, none⟩) (upL l0 NL) (upL g0 NF) sl sh w3 := ⟨gX.tr W2, h5.keep W2, h10.keep W2, ⟨_, ho.keep W2⟩, ⟨pan.getD 1 0, by rw [← hsp]; exact o3.keep W2⟩, ⟨bot.getD 0 0, by rw [← hsb]; exact o11.keep W2⟩, rl, rf⟩
  have HE := (Lib.hid (And.intro (And.intro hNL hl0) (And.intro hNF hg0)))
  have HX := Lib.hid hx
  clear hsp hsb rl rf h5 h6 h10 ho o3 o11 b0 b1 b2 b3 b4 b5 b6 gX gA g2 g3 hNF hg0 hfp W2 hNL hl0 hlp hc
  have e56 : w.heap.size ≠ w.heap.size + 1 + 1 := by omega
  have e5B : w.heap.size ≠ B := by omega
  have e10B : w.heap.size + 1 + 1 ≠ B := by omega
  have e103 : w.heap.size + 1 + 1 ≠ r3 := by omega
  have e1011 : w.heap.size + 1 + 1 ≠ r11 := by omega
  have e3B : r3 ≠ B := by omega
  have e11B : r11 ≠ B := by omega
  have le3 : w.heap.size ≤ r3 := by omega
  have le11 : w.heap.size ≤ r11 := by omega
  have leB : w.heap.size ≤ B := by omega
  have t3 : r3 < B + 1 := by omega
  have t11 : r11 < B + 1 := by omega
  have t5 : w.heap.size < B + 1 := by omega
  go_loopw [15] (fun t wr => Hid (∃ (i : Nat) (lo hi : Int), i ≤ NL ∧ t = .int .i64 i ∧ WidK w w.heap.size (w.heap.size + 1 + 1) B r3 r11 (XCells tab pan top bot r3 r7 r11 c3 c7 c11 slo opn) pan bot 1 0 (some ⟨gl, go, none⟩) (some ⟨fb0, fo0, none⟩) (upL l0 NL) (upL g0 NF) lo hi wr ∧ InvW (wF l0 g0 c) NF sl sh i 0 lo hi)) (fun t _ => NL - (intOf t).toNat)
  case atStart => exact Lib.hid ⟨0, sl, sh, Nat.zero_le _, rfl, K0, InvW.start _ _ _ _⟩
  case round =>
    clear K0
    obtain ⟨i, lo, hi, hiN, rfl, K, V⟩ := hrel.out
    clear hrel
    by_cases hlt : i < NL
    case neg =>
      obtain rfl : i = NL := by omega
      have s5 := K.s.1.2 0 _ rfl
      have s6 := K.s.1.2 1 _ rfl
      obtain ⟨y0, y1⟩ := K.z.1.c2
      have z0 := K.z.2 0
      have z1 := K.z.2 1
      have HV := Lib.hid V
      have gK := K.g
      have hle10 : w.heap.size ≤ w.heap.size + 1 + 1 := by omega
      clear V K
      go_wp2
      refine bodyPost_ret (v := .agg #[.int .i64 lo, .int .i64 hi]) (by simp [results, Try.results27, go_sem, y0, y1]) rfl ⟨lo, hi, rfl, (gK.setCell hle10 _).setCell hle10 _, ?_⟩
      have e := HE.out
      rw [e.1.1, e.1.2, e.2.1, e.2.2]
      exact HV.out
    have HV := Lib.hid V
    clear V
    have hil : (i : Int) < (NL : Int) := by omega
    go_wp2
    go_loopw [16] (fun t wr => Hid (∃ (k : Nat) (lo hi : Int), k ≤ NF ∧ t = .int .i64 k ∧ WidK w w.heap.size (w.heap.size + 1 + 1) B r3 r11 (XCells tab pan top bot r3 r7 r11 c3 c7 c11 slo opn) pan bot 1 0 (some ⟨gl, go, none⟩) (some ⟨fb0, fo0, none⟩) (upL l0 NL) (upL g0 NF) lo hi wr ∧ InvW (wF l0 g0 c) NF sl sh i k lo hi)) (fun t _ => NF - (intOf t).toNat)
    case atStart => exact Lib.hid ⟨0, lo, hi, Nat.zero_le _, rfl, K, HV.out⟩
    case round =>
      clear K HV lo hi
      obtain ⟨k, lo, hi, hkN, rfl, K, V⟩ := hrel.out
      clear hrel
      by_cases hkt : k < NF
      case neg =>
        obtain rfl : k = NF := by omega
        have HV := Lib.hid V.row
        clear V
        go_wp2
        go_roundw
        case rel => exact Lib.hid ⟨i + 1, lo, hi, by omega, by go_num, K, HV.out⟩
        case measure => simp [intOf]; omega
      obtain ⟨gK, ks, kz, ⟨xh, kx⟩, ⟨yp, kp⟩, ⟨yb, kb⟩, kl, kf⟩ := K
      have hkl : (k : Int) < (NF : Int) := by omega
      obtain ⟨_, _, e9, _, cl⟩ := IRow.get kl (upL_get hlt)
      cases e9
      obtain ⟨_, _, e9, _, cf⟩ := IRow.get kf (upL_get hkt)
      cases e9
      have HV := Lib.hid (V.step hkt)
      clear V
      obtain ⟨nv, hnv⟩ : ∃ z, wF l0 g0 c i k = z := ⟨_, rfl⟩
      rw [hnv] at HV
      try simp only [Nat.zero_add] at cf
      try simp only [Nat.zero_add] at cl
      have mjl : 1 < pan.length := by omega
      have mql : 0 < bot.length := by omega
      have mjp : (1 : Int) < (pan.length : Int) := by omega
      have mqp : (0 : Int) < (bot.length : Int) := by omega
      go_upto_region 20 with fail
      have hF : Held2 B 1 (.slice (some ⟨r3, 0, none⟩) pan.length c3) gl (go + i) (.int .i64 (l0 + (i : Int))) wr.drew := ⟨(kx.keep (Gr.dr _)).1.2 1 _ rfl, (Gr.dr _).keep cl⟩
      haveI : Nonempty (AtW (Held2 B 1 (.slice (some ⟨r3, 0, none⟩) pan.length c3) gl (go + i) (.int .i64 (l0 + (i : Int))))) := ⟨⟨_, hF⟩⟩
      have z0 : ∀ u : AtW (Held2 B 1 (.slice (some ⟨r3, 0, none⟩) pan.length c3) gl (go + i) (.int .i64 (l0 + (i : Int)))), u.val.cell? ⟨B, 1, none⟩ = some (.slice (some ⟨r3, 0, none⟩) pan.length c3) := fun u => u.property.1
      have z1 : ∀ u : AtW (Held2 B 1 (.slice (some ⟨r3, 0, none⟩) pan.length c3) gl (go + i) (.int .i64 (l0 + (i : Int)))), u.val.cell? ⟨gl, go + i, none⟩ = some (.int .i64 (l0 + (i : Int))) := fun u => u.property.2
      refine wp_region_ord (fun w' => ∃ u : AtW (Held2 B 1 (.slice (some ⟨r3, 0, none⟩) pan.length c3) gl (go + i) (.int .i64 (l0 + (i : Int)))), w' = u.val) 8 ((List.range' 0 8).map (fun i => (i, true)) ++ []) (by kernel_rfl) (by kernel_rfl) ⟨⟨_, hF⟩, rfl⟩ ?_
      refine ord_seg 0 8 (by kernel_rfl) (fun d _ _ _ _ h => by cases d <;> exact h) ?_
      simp only [List.drop_zero, List.take_succ_cons, List.take_zero]
      repeat (go_big_quiet_step (fail))
      refine wpQuiet_nil ?_
      clear z0 z1
      show wpList _ _ _ (List.drop 8 _) _ _
      simp only [List.drop_succ_cons, List.drop_zero]
      have w0 := (kp.keep (Gr.dr wr)).1.2 1 (.int .i64 yp) (by simp [mjl])
      have z0 := (kp.keep (Gr.dr wr)).2 1
      go_upto_region 21 with fail
      refine wp_abs (fun V => Gr w V ∧ Own V w.heap.size [.int .i64 lo, .int .i64 hi] ∧ Own V (w.heap.size + 1 + 1) [.int .i64 0, .int .i64 0] ∧ Own V B (XCells tab pan top bot r3 r7 r11 c3 c7 c11 slo opn xh) ∧ Own V r3 ((pan.set 1 (l0 + (i : Int))).map (fun n => Value.int .i64 n)) ∧ Own V r11 ((bot.set 0 yb).map (fun n => Value.int .i64 n)) ∧ IRow V (some ⟨gl, go, none⟩) (upL l0 NL) ∧ IRow V (some ⟨fb0, fo0, none⟩) (upL g0 NF)) ⟨(gK.tr (Gr.dr _)).setCell le3 _, (ks.keep (Gr.dr _)).other lr3, (kz.keep (Gr.dr _)).other e103, (kx.keep (Gr.dr _)).other e3B.symm, by have h9 := (kp.keep (Gr.dr _)).set (i := 1) (v := .int .i64 (l0 + (i : Int))) (by simpa using mjl); rw [map_set] at h9; exact h9, (kb.keep (Gr.dr _)).other n3b.symm, (kl.grow (Gr.dr _)).other nl t3, (kf.grow (Gr.dr _)).other nf t3⟩ ?_
      clear gK ks kz kx kp kb kl kf w0 z0 hF
      rintro wr ⟨gK, ks, kz, kx, kp, kb, kl, kf⟩
      clear cl cf
      obtain ⟨_, _, e9, _, cf⟩ := IRow.get kf (upL_get hkt)
      cases e9
      try simp only [Nat.zero_add] at cf
      go_upto_region 21 with fail
      have hF : Held2 B 4 (.slice (some ⟨r11, 0, none⟩) bot.length c11) fb0 (fo0 + k) (.int .i64 (g0 + (k : Int))) wr.drew := ⟨(kx.keep (Gr.dr _)).1.2 4 _ rfl, (Gr.dr _).keep cf⟩
      haveI : Nonempty (AtW (Held2 B 4 (.slice (some ⟨r11, 0, none⟩) bot.length c11) fb0 (fo0 + k) (.int .i64 (g0 + (k : Int))))) := ⟨⟨_, hF⟩⟩
      have z0 : ∀ u : AtW (Held2 B 4 (.slice (some ⟨r11, 0, none⟩) bot.length c11) fb0 (fo0 + k) (.int .i64 (g0 + (k : Int)))), u.val.cell? ⟨B, 4, none⟩ = some (.slice (some ⟨r11, 0, none⟩) bot.length c11) := fun u => u.property.1
      have z1 : ∀ u : AtW (Held2 B 4 (.slice (some ⟨r11, 0, none⟩) bot.length c11) fb0 (fo0 + k) (.int .i64 (g0 + (k : Int)))), u.val.cell? ⟨fb0, fo0 + k, none⟩ = some (.int .i64 (g0 + (k : Int))) := fun u => u.property.2
      refine wp_region_ord (fun w' => ∃ u : AtW (Held2 B 4 (.slice (some ⟨r11, 0, none⟩) bot.length c11) fb0 (fo0 + k) (.int .i64 (g0 + (k : Int)))), w' = u.val) 7 ((List.range' 0 7).map (fun i => (i, true)) ++ []) (by kernel_rfl) (by kernel_rfl) ⟨⟨_, hF⟩, rfl⟩ ?_
      refine ord_seg 0 7 (by kernel_rfl) (fun d _ _ _ _ h => by cases d <;> exact h) ?_
      simp only [List.drop_zero, List.take_succ_cons, List.take_zero]
      repeat (go_big_quiet_step (fail))
      refine wpQuiet_nil ?_
      clear z0 z1
      show wpList _ _ _ (List.drop 7 _) _ _
      simp only [List.drop_succ_cons, List.drop_zero]
      have w0 := (kb.keep (Gr.dr wr)).1.2 0 (.int .i64 yb) (by simp [mql])
      have z0 := (kb.keep (Gr.dr wr)).2 0
      go_upto_region 22 with fail
      refine wp_abs (fun V => Gr w V ∧ Own V w.heap.size [.int .i64 lo, .int .i64 hi] ∧ Own V (w.heap.size + 1 + 1) [.int .i64 0, .int .i64 0] ∧ Own V B (XCells tab pan top bot r3 r7 r11 c3 c7 c11 slo opn xh) ∧ Own V r3 ((pan.set 1 (l0 + (i : Int))).map (fun n => Value.int .i64 n)) ∧ Own V r11 ((bot.set 0 (g0 + (k : Int))).map (fun n => Value.int .i64 n)) ∧ IRow V (some ⟨gl, go, none⟩) (upL l0 NL) ∧ IRow V (some ⟨fb0, fo0, none⟩) (upL g0 NF)) ⟨(gK.tr (Gr.dr _)).setCell le11 _, (ks.keep (Gr.dr _)).other lr11, (kz.keep (Gr.dr _)).other e1011, (kx.keep (Gr.dr _)).other e11B.symm, (kp.keep (Gr.dr _)).other n3b, by have h9 := (kb.keep (Gr.dr _)).set (i := 0) (v := .int .i64 (g0 + (k : Int))) (by simpa using mql); rw [map_set] at h9; exact h9, (kl.grow (Gr.dr _)).other nl t11, (kf.grow (Gr.dr _)).other nf t11⟩ ?_
      clear gK ks kz kx kp kb kl kf w0 z0 hF
      rintro V1 ⟨gK, ks, kz, kx, kp, kb, kl, kf⟩
      have PC := Lib.hid (fun (W' : World) (hr : IRow W' (some ⟨r3, 0, none⟩) (pan.set 1 (l0 + (i : Int)))) (h7 : True) (hs : IRow W' (some ⟨r11, 0, none⟩) (bot.set 0 (g0 + (k : Int)))) => show Calls Try.prog 72 #[.agg #[.int .i64 tab, .slice (some ⟨r3, 0, none⟩) pan.length c3, .int .i64 xh, .slice (some ⟨r7, 0, none⟩) top.length c7, .slice (some ⟨r11, 0, none⟩) bot.length c11, .int .i64 slo, .bool opn], .bool false, .bool true, .int .i64 c] W' (fun e w' => e = .returned (.int .i64 nv) ∧ Gr W' w') from by
        have h := refGapOut_any tab xh slo (pan.set 1 (l0 + (i : Int))) top (bot.set 0 (g0 + (k : Int))) (some ⟨r3, 0, none⟩) (some ⟨r7, 0, none⟩) (some ⟨r11, 0, none⟩) c3 c7 c11 opn (l0 + (i : Int)) (g0 + (k : Int)) c nv (by rw [← hnv]; unfold wF; omega) (by simp [mjl]) (by simp [mql]) (by omega) (by omega) (by omega) (by omega) c0 (by omega) W' hr hs
        rw [set_len4, set_len4] at h
        exact h)
      have x0 := kx.1.2 0 _ rfl
      have x1 := kx.1.2 1 _ rfl
      have x2 := kx.1.2 2 _ rfl
      have x3 := kx.1.2 3 _ rfl
      have x4 := kx.1.2 4 _ rfl
      have x5 := kx.1.2 5 _ rfl
      have x6 := kx.1.2 6 _ rfl
      have HNV := Lib.hid hnv
      clear hnv cf
      go_wp2_with (first
        | (go_at_call 72; refine (PC.out _ (Own.row kp (by rw [set_len4]; omega)) trivial (Own.row kb (by rw [set_len4]; omega))).mono ?_; rintro e w4 ⟨rfl, g4⟩; replace gK := gK.tr g4; replace ks := ks.keep g4; replace kz := kz.keep g4; replace kx := kx.keep g4; replace kp := kp.keep g4; replace kb := kb.keep g4; replace kl := kl.grow g4; replace kf := kf.grow g4; clear x0 x1 x2 x3 x4 x5 x6 PC; have s0 := ks.1.2 0 _ rfl; have s1 := ks.1.2 1 _ rfl)
        | (go_at_call 26; refine (span02_any _ _ _).mono ?_; rintro e w5 ⟨rfl, g5⟩; replace gK := gK.tr g5; replace ks := ks.keep g5; replace kz := kz.keep g5; replace kx := kx.keep g5; replace kp := kp.keep g5; replace kb := kb.keep g5; replace kl := kl.grow g5; replace kf := kf.grow g5; clear s0 s1; have s0 := ks.1.2 0 _ rfl; have s1 := ks.1.2 1 _ rfl; have z0 := ks.2 0; have z1 := ks.2 1))
      go_roundw
      case rel => exact Lib.hid ⟨k + 1, _, _, by omega, by go_num, ⟨(gK.setCell (p := ⟨w.heap.size, 0, none⟩) (Nat.le_refl _) _).setCell (p := ⟨w.heap.size, 1, none⟩) (Nat.le_refl _) _, (ks.set (i := 0) (by simp)).set (i := 1) (by simp), (kz.other e56.symm).other e56.symm, ⟨_, (kx.other e5B.symm).other e5B.symm⟩, ⟨_, (kp.other lr3.symm).other lr3.symm⟩, ⟨_, (kb.other lr11.symm).other lr11.symm⟩, (kl.other nl t5).other nl t5, (kf.other nf t5).other nf t5⟩, HV.out⟩
      case measure => simp [intOf]; omega

def WidPostE8 (sl sh off c n f : Int) (w : World) (e : Ending) (w' : World) : Prop := ∃ lo hi, e = .returned (.agg #[.int .i64 lo, .int .i64 hi]) ∧ Gr w w' ∧ InvW (wF (arLo n off 1) (arLo f off 0) c) (arN f off 0) sl sh (arN n off 1) 0 lo hi

set_option maxRecDepth 100000 in
set_option maxHeartbeats 8000000 in
theorem widened_E8 (tab hei slo : Int) (pan top bot : List Int) (pa ta ba : Option Addr) (pc tc bc : Nat) (opn : Bool) (G : GoodB tab hei slo pan top bot opn) (off c sl sh : Int) (o0 : 0 ≤ off) (o1 : off ≤ 5) (c0 : 0 ≤ c) (c1 : c ≤ 10000) (n : Int) (f : Int) (hx : pan[0]? = some n) (hf : bot[1]? = some f) (w : World) (hp : IRow w pa pan) (ht : IRow w ta top) (hb : IRow w ba bot) :
    Calls Try.prog 27 #[.agg #[.int .i64 sl, .int .i64 sh], .agg #[.int .i64 tab, .slice pa pan.length pc, .int .i64 hei, .slice ta top.length tc, .slice ba bot.length bc, .int .i64 slo, .bool opn], .int .i64 8, .int .i64 c, .int .i64 off] w (WidPostE8 sl sh off c n f w) := by
  have gg := ((Gr.al w (.cells #[.int .i64 sl, .int .i64 sh] 37)).tr (Gr.al _ (.cells #[.int .i64 tab, .slice pa pan.length pc, .int .i64 hei, .slice ta top.length tc, .slice ba bot.length bc, .int .i64 slo, .bool opn] 24))).tr (Gr.al _ (.cells #[.int .i64 0, .int .i64 0] 37))
  have h5 := (Own.new w [.int .i64 sl, .int .i64 sh] 37 w.heap.size rfl).keep ((Gr.al _ (.cells #[.int .i64 tab, .slice pa pan.length pc, .int .i64 hei, .slice ta top.length tc, .slice ba bot.length bc, .int .i64 slo, .bool opn] 24)).tr (Gr.al _ (.cells #[.int .i64 0, .int .i64 0] 37)))
  have h6 := (Box.new (w.alloc (.cells #[.int .i64 sl, .int .i64 sh] 37)) [.int .i64 tab, .slice pa pan.length pc, .int .i64 hei, .slice ta top.length tc, .slice ba bot.length bc, .int .i64 slo, .bool opn] 24 (w.heap.size + 1) (by simp)).keep (Gr.al _ (.cells #[.int .i64 0, .int .i64 0] 37))
  have h10 := Own.new ((w.alloc (.cells #[.int .i64 sl, .int .i64 sh] 37)).alloc (.cells #[.int .i64 tab, .slice pa pan.length pc, .int .i64 hei, .slice ta top.length tc, .slice ba bot.length bc, .int .i64 slo, .bool opn] 24)) [.int .i64 0, .int .i64 0] 37 (w.heap.size + 1 + 1) (by simp)
  have HP := Lib.hid hp
  have HT := Lib.hid ht
  have HB := Lib.hid hb
  have HG := Lib.hid G
  clear hp ht hb
  obtain ⟨b0, b1, b2, b3, b4, b5, b6⟩ := h6.c7
  go_enter Try.func27, Try.ntmps27
  go_upto_region 2 with (go_at_call 16; refine (own02_own tab hei slo pan top bot pa ta ba pc tc bc opn (by rw [HG.out.l4]; omega) (by rw [HG.out.t2]; omega) (by rw [HG.out.b2]; omega) _ (HP.out.grow gg) (HT.out.grow gg) (HB.out.grow gg)).mono ?_; rintro e w1 ⟨r3, c3, r7, c7, r11, c11, rfl, g1, o3, o7, o11, ⟨n3, n7, n11⟩, n37, n3b, n7b⟩)
  obtain ⟨B, hB⟩ : ∃ B, B = w1.heap.size := ⟨_, rfl⟩
  have ho := Own.new w1 (XCells tab pan top bot r3 r7 r11 c3 c7 c11 slo opn hei) 24 B hB
  have gq := g1.tr (Gr.al w1 (.cells (XCells tab pan top bot r3 r7 r11 c3 c7 c11 slo opn hei).toArray 24))
  have gq1 := Gr.al w1 (.cells (XCells tab pan top bot r3 r7 r11 c3 c7 c11 slo opn hei).toArray 24)
  have l3 : r3 < B := hB ▸ o3.1.1
  have l11 : r11 < B := hB ▸ o11.1.1
  have l6 := h6.1
  have l10 := h10.1.1
  have lB : w.heap.size + 1 + 1 < B := by have := g1.size; omega
  have m3 : w.heap.size + 1 + 1 < r3 := by omega
  have m11 : w.heap.size + 1 + 1 < r11 := by omega
  rw [← hB]
  refine wp_abs (fun X => Gr w X ∧ Own X w.heap.size [.int .i64 sl, .int .i64 sh] ∧ Box X (w.heap.size + 1) [.int .i64 tab, .slice pa pan.length pc, .int .i64 hei, .slice ta top.length tc, .slice ba bot.length bc, .int .i64 slo, .bool opn] ∧ Own X (w.heap.size + 1 + 1) [.int .i64 0, .int .i64 0] ∧ Own X B (XCells tab pan top bot r3 r7 r11 c3 c7 c11 slo opn hei) ∧ Own X r3 (pan.map (fun n => Value.int .i64 n)) ∧ Own X r11 (bot.map (fun n => Value.int .i64 n)) ∧ B < X.heap.size) ⟨gg.tr gq, h5.keep gq, h6.keep gq, h10.keep gq, ho, o3.keep gq1, o11.keep gq1, ho.1.1⟩ ?_
  clear gg h5 h6 h10 ho o3 o7 o11 gq gq1 hB n3 n7 n11 n37 n7b g1 l6 l10 b0 b1 b2 b3 b4 b5 b6
  rintro X ⟨gX, h5, h6, h10, ho, o3, o11, lX⟩
  obtain ⟨b0, b1, b2, b3, b4, b5, b6⟩ := h6.c7
  obtain ⟨nn0, nn1⟩ := in_at HG.out.gpan hx
  have hpl : 4 ≤ pan.length ∧ pan.length ≤ 4 := by rw [HG.out.l4]; omega
  obtain ⟨pb, po, rfl, _, hc⟩ := IRow.get (HP.out.grow gX) hx
  try simp only [Nat.add_zero] at hc
  obtain ⟨ff0, ff1⟩ := in_at HG.out.gbot hf
  obtain ⟨fb, fo, rfl, _, hd⟩ := IRow.get (HB.out.grow gX) hf
  try simp only [Nat.add_zero] at hd
  have hbl : 2 ≤ bot.length ∧ bot.length ≤ 2 := by rw [HG.out.b2]; omega
  have htl : 2 ≤ top.length ∧ top.length ≤ 2 := by rw [HG.out.t2]; omega
  have hbp : (1 : Int) < (bot.length : Int) := by omega
  have hbq : (0 : Int) < (bot.length : Int) := by omega
  have htp : (1 : Int) < (top.length : Int) := by omega
  have htq : (0 : Int) < (top.length : Int) := by omega
  have hbr : 1 < bot.length ∧ 0 < bot.length := by omega
  have htr : 1 < top.length ∧ 0 < top.length := by omega
  skip
  have lr3 : w.heap.size ≠ r3 := by omega
  have lr11 : w.heap.size ≠ r11 := by omega
  have gA := (Gr.al X (.cells #[] 3)).tr (Gr.al _ (.cells #[.int .i64 0] 3))
  have h6 := h6.keep gA
  clear b0 b1 b2 b3 b4 b5 b6
  obtain ⟨b0, b1, b2, b3, b4, b5, b6⟩ := h6.c7
  clear hc
  obtain ⟨_, _, eq9, _, hc⟩ := IRow.get (HP.out.grow (gX.tr gA)) hx
  cases eq9
  try simp only [Nat.add_zero] at hc
  have tk : True := trivial
  go_wp2_with (first
    | (have _t := tk; clear tk _t; go_at_call 70; refine (refAround_any n off 1 (by omega) (by omega) o0 o1 (by omega) _).mono ?_; rintro e w2 ⟨la, lc, rfl, g2, rl, nl⟩; replace h6 := h6.keep g2; clear hd; obtain ⟨_, _, eq9, _, hd⟩ := IRow.get (HB.out.grow (gX.tr (gA.tr g2))) hf; cases eq9; (try simp only [Nat.add_zero] at hd); clear b0 b1 b2 b3 b4 b5 b6; obtain ⟨b0, b1, b2, b3, b4, b5, b6⟩ := h6.c7)
    | (go_at_call 70; refine (refAround_any f off 0 (by omega) (by omega) o0 o1 (by omega) _).mono ?_; rintro e w3 ⟨fa, fc, rfl, g3, rf, nf⟩))
  replace rl := rl.grow g3
  have W2 : Gr X w3 := gA.tr (g2.tr g3)
  have hfp : 0 < arN f off 0 := by unfold arN arHi arLo; omega
  obtain ⟨fb0, fo0, rfl, _, _⟩ := IRow.get rf (upL_get hfp)
  have nf : NewAt (B + 1) (some (⟨fb0, fo0, none⟩ : Addr)) := nf.le (by have := (gA.tr g2).size; omega)
  obtain ⟨NF, hNF⟩ : ∃ k, arN f off 0 = k := ⟨_, rfl⟩
  obtain ⟨g0, hg0⟩ : ∃ k, arLo f off 0 = k := ⟨_, rfl⟩
  have ng : 0 ≤ g0 ∧ g0 ≤ f ∧ 0 < NF ∧ NF ≤ 11 ∧ g0 + (NF : Int) ≤ 3001 := by unfold arN arHi arLo at hNF; unfold arLo at hg0; omega
  have hlp : 0 < arN n off 1 := by unfold arN arHi arLo; omega
  obtain ⟨gl, go, rfl, _, _⟩ := IRow.get rl (upL_get hlp)
  have nl : NewAt (B + 1) (some (⟨gl, go, none⟩ : Addr)) := nl.le (by have := gA.size; omega)
  obtain ⟨NL, hNL⟩ : ∃ k, arN n off 1 = k := ⟨_, rfl⟩
  obtain ⟨l0, hl0⟩ : ∃ k, arLo n off 1 = k := ⟨_, rfl⟩
  have nn : 1 ≤ l0 ∧ l0 ≤ n ∧ 0 < NL ∧ NL ≤ 11 ∧ l0 + (NL : Int) ≤ 3001 := by unfold arN arHi arLo at hNL; unfold arLo at hl0; omega
  rw [show arL n off 1 = upL l0 NL by unfold arL; rw [hNL, hl0]] at rl
  rw [show arL f off 0 = upL g0 NF by unfold arL; rw [hNF, hg0]] at rf
  rw [hNL, hNF]
  have hsp := set_self pan 0
  have hsb := set_self bot 1
  have K0 : WidK w w.heap.size (w.heap.size + 1 + 1) B r3 r11 (XCells tab pan top bot r3 r7 r11 c3 c7 c11 slo opn) pan bot 0 1 (some ⟨gl, go, none⟩) (some ⟨fb0, fo0, none⟩) (upL l0 NL) (upL g0 NF) sl sh w3 := ⟨gX.tr W2, h5.keep W2, h10.keep W2, ⟨_, ho.keep W2⟩, ⟨pan.getD 0 0, by rw [← hsp]; exact o3.keep W2⟩, ⟨bot.getD 1 0, by rw [← hsb]; exact o11.keep W2⟩, rl, rf⟩
  have HE := (Lib.hid (And.intro (And.intro hNL hl0) (And.intro hNF hg0)))
  have HX := Lib.hid hx
  clear hsp hsb rl rf h5 h6 h10 ho o3 o11 b0 b1 b2 b3 b4 b5 b6 gX gA g2 g3 hNF hg0 hfp W2 hNL hl0 hlp hc
  have e56 : w.heap.size ≠ w.heap.size + 1 + 1 := by omega
  have e5B : w.heap.size ≠ B := by omega
  have e10B : w.heap.size + 1 + 1 ≠ B := by omega
  have e103 : w.heap.size + 1 + 1 ≠ r3 := by omega
  have e1011 : w.heap.size + 1 + 1 ≠ r11 := by omega
  have e3B : r3 ≠ B := by omega
  have e11B : r11 ≠ B := by omega
  have le3 : w.heap.size ≤ r3 := by omega
  have le11 : w.heap.size ≤ r11 := by omega
  have leB : w.heap.size ≤ B := by omega
  have t3 : r3 < B + 1 := by omega
  have t11 : r11 < B + 1 := by omega
  have t5 : w.heap.size < B + 1 := by omega
  go_loopw [15] (fun t wr => Hid (∃ (i : Nat) (lo hi : Int), i ≤ NL ∧ t = .int .i64 i ∧ WidK w w.heap.size (w.heap.size + 1 + 1) B r3 r11 (XCells tab pan top bot r3 r7 r11 c3 c7 c11 slo opn) pan bot 0 1 (some ⟨gl, go, none⟩) (some ⟨fb0, fo0, none⟩) (upL l0 NL) (upL g0 NF) lo hi wr ∧ InvW (wF l0 g0 c) NF sl sh i 0 lo hi)) (fun t _ => NL - (intOf t).toNat)
  case atStart => exact Lib.hid ⟨0, sl, sh, Nat.zero_le _, rfl, K0, InvW.start _ _ _ _⟩
  case round =>
    clear K0
    obtain ⟨i, lo, hi, hiN, rfl, K, V⟩ := hrel.out
    clear hrel
    by_cases hlt : i < NL
    case neg =>
      obtain rfl : i = NL := by omega
      have s5 := K.s.1.2 0 _ rfl
      have s6 := K.s.1.2 1 _ rfl
      obtain ⟨y0, y1⟩ := K.z.1.c2
      have z0 := K.z.2 0
      have z1 := K.z.2 1
      have HV := Lib.hid V
      have gK := K.g
      have hle10 : w.heap.size ≤ w.heap.size + 1 + 1 := by omega
      clear V K
      go_wp2
      refine bodyPost_ret (v := .agg #[.int .i64 lo, .int .i64 hi]) (by simp [results, Try.results27, go_sem, y0, y1]) rfl ⟨lo, hi, rfl, (gK.setCell hle10 _).setCell hle10 _, ?_⟩
      have e := HE.out
      rw [e.1.1, e.1.2, e.2.1, e.2.2]
      exact HV.out
    have HV := Lib.hid V
    clear V
    have hil : (i : Int) < (NL : Int) := by omega
    go_wp2
    go_loopw [16] (fun t wr => Hid (∃ (k : Nat) (lo hi : Int), k ≤ NF ∧ t = .int .i64 k ∧ WidK w w.heap.size (w.heap.size + 1 + 1) B r3 r11 (XCells tab pan top bot r3 r7 r11 c3 c7 c11 slo opn) pan bot 0 1 (some ⟨gl, go, none⟩) (some ⟨fb0, fo0, none⟩) (upL l0 NL) (upL g0 NF) lo hi wr ∧ InvW (wF l0 g0 c) NF sl sh i k lo hi)) (fun t _ => NF - (intOf t).toNat)
    case atStart => exact Lib.hid ⟨0, lo, hi, Nat.zero_le _, rfl, K, HV.out⟩
    case round =>
      clear K HV lo hi
      obtain ⟨k, lo, hi, hkN, rfl, K, V⟩ := hrel.out
      clear hrel
      by_cases hkt : k < NF
      case neg =>
        obtain rfl : k = NF := by omega
        have HV := Lib.hid V.row
        clear V
        go_wp2
        go_roundw
        case rel => exact Lib.hid ⟨i + 1, lo, hi, by omega, by go_num, K, HV.out⟩
        case measure => simp [intOf]; omega
      obtain ⟨gK, ks, kz, ⟨xh, kx⟩, ⟨yp, kp⟩, ⟨yb, kb⟩, kl, kf⟩ := K
      have hkl : (k : Int) < (NF : Int) := by omega
      obtain ⟨_, _, e9, _, cl⟩ := IRow.get kl (upL_get hlt)
      cases e9
      obtain ⟨_, _, e9, _, cf⟩ := IRow.get kf (upL_get hkt)
      cases e9
      have HV := Lib.hid (V.step hkt)
      clear V
      obtain ⟨nv, hnv⟩ : ∃ z, wF l0 g0 c i k = z := ⟨_, rfl⟩
      rw [hnv] at HV
      try simp only [Nat.zero_add] at cf
      try simp only [Nat.zero_add] at cl
      have mjl : 0 < pan.length := by omega
      have mql : 1 < bot.length := by omega
      have mjp : (0 : Int) < (pan.length : Int) := by omega
      have mqp : (1 : Int) < (bot.length : Int) := by omega
      go_upto_region 20 with fail
      have hF : Held2 B 1 (.slice (some ⟨r3, 0, none⟩) pan.length c3) gl (go + i) (.int .i64 (l0 + (i : Int))) wr.drew := ⟨(kx.keep (Gr.dr _)).1.2 1 _ rfl, (Gr.dr _).keep cl⟩
      haveI : Nonempty (AtW (Held2 B 1 (.slice (some ⟨r3, 0, none⟩) pan.length c3) gl (go + i) (.int .i64 (l0 + (i : Int))))) := ⟨⟨_, hF⟩⟩
      have z0 : ∀ u : AtW (Held2 B 1 (.slice (some ⟨r3, 0, none⟩) pan.length c3) gl (go + i) (.int .i64 (l0 + (i : Int)))), u.val.cell? ⟨B, 1, none⟩ = some (.slice (some ⟨r3, 0, none⟩) pan.length c3) := fun u => u.property.1
      have z1 : ∀ u : AtW (Held2 B 1 (.slice (some ⟨r3, 0, none⟩) pan.length c3) gl (go + i) (.int .i64 (l0 + (i : Int)))), u.val.cell? ⟨gl, go + i, none⟩ = some (.int .i64 (l0 + (i : Int))) := fun u => u.property.2
      refine wp_region_ord (fun w' => ∃ u : AtW (Held2 B 1 (.slice (some ⟨r3, 0, none⟩) pan.length c3) gl (go + i) (.int .i64 (l0 + (i : Int)))), w' = u.val) 8 ((List.range' 0 8).map (fun i => (i, true)) ++ []) (by kernel_rfl) (by kernel_rfl) ⟨⟨_, hF⟩, rfl⟩ ?_
      refine ord_seg 0 8 (by kernel_rfl) (fun d _ _ _ _ h => by cases d <;> exact h) ?_
      simp only [List.drop_zero, List.take_succ_cons, List.take_zero]
      repeat (go_big_quiet_step (fail))
      refine wpQuiet_nil ?_
      clear z0 z1
      show wpList _ _ _ (List.drop 8 _) _ _
      simp only [List.drop_succ_cons, List.drop_zero]
      have w0 := (kp.keep (Gr.dr wr)).1.2 0 (.int .i64 yp) (by simp [mjl])
      have z0 := (kp.keep (Gr.dr wr)).2 0
      go_upto_region 21 with fail
      refine wp_abs (fun V => Gr w V ∧ Own V w.heap.size [.int .i64 lo, .int .i64 hi] ∧ Own V (w.heap.size + 1 + 1) [.int .i64 0, .int .i64 0] ∧ Own V B (XCells tab pan top bot r3 r7 r11 c3 c7 c11 slo opn xh) ∧ Own V r3 ((pan.set 0 (l0 + (i : Int))).map (fun n => Value.int .i64 n)) ∧ Own V r11 ((bot.set 1 yb).map (fun n => Value.int .i64 n)) ∧ IRow V (some ⟨gl, go, none⟩) (upL l0 NL) ∧ IRow V (some ⟨fb0, fo0, none⟩) (upL g0 NF)) ⟨(gK.tr (Gr.dr _)).setCell le3 _, (ks.keep (Gr.dr _)).other lr3, (kz.keep (Gr.dr _)).other e103, (kx.keep (Gr.dr _)).other e3B.symm, by have h9 := (kp.keep (Gr.dr _)).set (i := 0) (v := .int .i64 (l0 + (i : Int))) (by simpa using mjl); rw [map_set] at h9; exact h9, (kb.keep (Gr.dr _)).other n3b.symm, (kl.grow (Gr.dr _)).other nl t3, (kf.grow (Gr.dr _)).other nf t3⟩ ?_
      clear gK ks kz kx kp kb kl kf w0 z0 hF
      rintro wr ⟨gK, ks, kz, kx, kp, kb, kl, kf⟩
      clear cl cf
      obtain ⟨_, _, e9, _, cf⟩ := IRow.get kf (upL_get hkt)
      cases e9
      try simp only [Nat.zero_add] at cf
      go_upto_region 21 with fail
      have hF : Held2 B 4 (.slice (some ⟨r11, 0, none⟩) bot.length c11) fb0 (fo0 + k) (.int .i64 (g0 + (k : Int))) wr.drew := ⟨(kx.keep (Gr.dr _)).1.2 4 _ rfl, (Gr.dr _).keep cf⟩
      haveI : Nonempty (AtW (Held2 B 4 (.slice (some ⟨r11, 0, none⟩) bot.length c11) fb0 (fo0 + k) (.int .i64 (g0 + (k : Int))))) := ⟨⟨_, hF⟩⟩
      have z0 : ∀ u : AtW (Held2 B 4 (.slice (some ⟨r11, 0, none⟩) bot.length c11) fb0 (fo0 + k) (.int .i64 (g0 + (k : Int)))), u.val.cell? ⟨B, 4, none⟩ = some (.slice (some ⟨r11, 0, none⟩) bot.length c11) := fun u => u.property.1
      have z1 : ∀ u : AtW (Held2 B 4 (.slice (some ⟨r11, 0, none⟩) bot.length c11) fb0 (fo0 + k) (.int .i64 (g0 + (k : Int)))), u.val.cell? ⟨fb0, fo0 + k, none⟩ = some (.int .i64 (g0 + (k : Int))) := fun u => u.property.2
      refine wp_region_ord (fun w' => ∃ u : AtW (Held2 B 4 (.slice (some ⟨r11, 0, none⟩) bot.length c11) fb0 (fo0 + k) (.int .i64 (g0 + (k : Int)))), w' = u.val) 7 ((List.range' 0 7).map (fun i => (i, true)) ++ []) (by kernel_rfl) (by kernel_rfl) ⟨⟨_, hF⟩, rfl⟩ ?_
      refine ord_seg 0 7 (by kernel_rfl) (fun d _ _ _ _ h => by cases d <;> exact h) ?_
      simp only [List.drop_zero, List.take_succ_cons, List.take_zero]
      repeat (go_big_quiet_step (fail))
      refine wpQuiet_nil ?_
      clear z0 z1
      show wpList _ _ _ (List.drop 7 _) _ _
      simp only [List.drop_succ_cons, List.drop_zero]
      have w0 := (kb.keep (Gr.dr wr)).1.2 1 (.int .i64 yb) (by simp [mql])
      have z0 := (kb.keep (Gr.dr wr)).2 1
      go_upto_region 22 with fail
      refine wp_abs (fun V => Gr w V ∧ Own V w.heap.size [.int .i64 lo, .int .i64 hi] ∧ Own V (w.heap.size + 1 + 1) [.int .i64 0, .int .i64 0] ∧ Own V B (XCells tab pan top bot r3 r7 r11 c3 c7 c11 slo opn xh) ∧ Own V r3 ((pan.set 0 (l0 + (i : Int))).map (fun n => Value.int .i64 n)) ∧ Own V r11 ((bot.set 1 (g0 + (k : Int))).map (fun n => Value.int .i64 n)) ∧ IRow V (some ⟨gl, go, none⟩) (upL l0 NL) ∧ IRow V (some ⟨fb0, fo0, none⟩) (upL g0 NF)) ⟨(gK.tr (Gr.dr _)).setCell le11 _, (ks.keep (Gr.dr _)).other lr11, (kz.keep (Gr.dr _)).other e1011, (kx.keep (Gr.dr _)).other e11B.symm, (kp.keep (Gr.dr _)).other n3b, by have h9 := (kb.keep (Gr.dr _)).set (i := 1) (v := .int .i64 (g0 + (k : Int))) (by simpa using mql); rw [map_set] at h9; exact h9, (kl.grow (Gr.dr _)).other nl t11, (kf.grow (Gr.dr _)).other nf t11⟩ ?_
      clear gK ks kz kx kp kb kl kf w0 z0 hF
      rintro V1 ⟨gK, ks, kz, kx, kp, kb, kl, kf⟩
      have PC := Lib.hid (fun (W' : World) (hr : IRow W' (some ⟨r3, 0, none⟩) (pan.set 0 (l0 + (i : Int)))) (h7 : True) (hs : IRow W' (some ⟨r11, 0, none⟩) (bot.set 1 (g0 + (k : Int)))) => show Calls Try.prog 72 #[.agg #[.int .i64 tab, .slice (some ⟨r3, 0, none⟩) pan.length c3, .int .i64 xh, .slice (some ⟨r7, 0, none⟩) top.length c7, .slice (some ⟨r11, 0, none⟩) bot.length c11, .int .i64 slo, .bool opn], .bool false, .bool false, .int .i64 c] W' (fun e w' => e = .returned (.int .i64 nv) ∧ Gr W' w') from by
        have h := refGapIn_any tab xh slo (pan.set 0 (l0 + (i : Int))) top (bot.set 1 (g0 + (k : Int))) (some ⟨r3, 0, none⟩) (some ⟨r7, 0, none⟩) (some ⟨r11, 0, none⟩) c3 c7 c11 opn (l0 + (i : Int)) (g0 + (k : Int)) c nv (by rw [← hnv]; unfold wF; omega) (by simp [mjl]) (by simp [mql]) (by omega) (by omega) (by omega) (by omega) c0 (by omega) W' hr hs
        rw [set_len4, set_len4] at h
        exact h)
      have x0 := kx.1.2 0 _ rfl
      have x1 := kx.1.2 1 _ rfl
      have x2 := kx.1.2 2 _ rfl
      have x3 := kx.1.2 3 _ rfl
      have x4 := kx.1.2 4 _ rfl
      have x5 := kx.1.2 5 _ rfl
      have x6 := kx.1.2 6 _ rfl
      have HNV := Lib.hid hnv
      clear hnv cf
      go_wp2_with (first
        | (go_at_call 72; refine (PC.out _ (Own.row kp (by rw [set_len4]; omega)) trivial (Own.row kb (by rw [set_len4]; omega))).mono ?_; rintro e w4 ⟨rfl, g4⟩; replace gK := gK.tr g4; replace ks := ks.keep g4; replace kz := kz.keep g4; replace kx := kx.keep g4; replace kp := kp.keep g4; replace kb := kb.keep g4; replace kl := kl.grow g4; replace kf := kf.grow g4; clear x0 x1 x2 x3 x4 x5 x6 PC; have s0 := ks.1.2 0 _ rfl; have s1 := ks.1.2 1 _ rfl)
        | (go_at_call 26; refine (span02_any _ _ _).mono ?_; rintro e w5 ⟨rfl, g5⟩; replace gK := gK.tr g5; replace ks := ks.keep g5; replace kz := kz.keep g5; replace kx := kx.keep g5; replace kp := kp.keep g5; replace kb := kb.keep g5; replace kl := kl.grow g5; replace kf := kf.grow g5; clear s0 s1; have s0 := ks.1.2 0 _ rfl; have s1 := ks.1.2 1 _ rfl; have z0 := ks.2 0; have z1 := ks.2 1))
      go_roundw
      case rel => exact Lib.hid ⟨k + 1, _, _, by omega, by go_num, ⟨(gK.setCell (p := ⟨w.heap.size, 0, none⟩) (Nat.le_refl _) _).setCell (p := ⟨w.heap.size, 1, none⟩) (Nat.le_refl _) _, (ks.set (i := 0) (by simp)).set (i := 1) (by simp), (kz.other e56.symm).other e56.symm, ⟨_, (kx.other e5B.symm).other e5B.symm⟩, ⟨_, (kp.other lr3.symm).other lr3.symm⟩, ⟨_, (kb.other lr11.symm).other lr11.symm⟩, (kl.other nl t5).other nl t5, (kf.other nf t5).other nf t5⟩, HV.out⟩
      case measure => simp [intOf]; omega

end Go.Proofs.Ytafkoococfnakaa

namespace Go.Proofs.Ytafkoococfnakaa
set_option linter.unusedVariables false
set_option linter.unusedSimpArgs false
open Go.RowKit

theorem sp_eq {a b c d : Int} (h : a = c) (h' : b = d) : Ending.returned (.agg #[.int .i64 a, .int .i64 b]) = .returned (.agg #[.int .i64 c, .int .i64 d]) := by rw [h, h']

theorem ar_end {n off least : Int} (h0 : least ≤ n) (h1 : n ≤ 3000) (h2 : 0 ≤ off) : arLo n off least + (arN n off least : Int) - 1 = arHi n off ∧ 0 < arN n off least := by
  unfold arN arHi arLo
  omega

theorem inner_panel {off hei : Int} {pan top bot : List Int} {opn : Bool} {c : Int} {m : Nat} (hm : m < 4) {n : Int} (hx : pan[m]? = some n) : innerAt off hei pan top bot opn c c m = ⟨1000 * arLo n off 1 - c, 1000 * arHi n off - c⟩ := by
  have e4 : ¬ ((m : Int) = 4 ∧ opn = false) := by omega
  simp only [innerAt, insideS, flatAt, if_pos hm, lostL, if_neg e4, getD_eq hx, nearL, arLo, arHi, Int.one_mul]

theorem inner_high {off hei : Int} {pan top bot : List Int} {opn : Bool} {c : Int} : innerAt off hei pan top bot opn c c 4 = ⟨1000 * arLo hei off 1 - lostK opn c, 1000 * arHi hei off - lostK opn c⟩ := by
  cases opn <;> simp [innerAt, insideS, flatAt, lostL, lostK, nearL, arLo, arHi]

theorem inner_gap {off hei : Int} {pan top bot : List Int} {opn : Bool} {c : Int} {m : Nat} (h5 : 5 ≤ m) {n : Int} (hx : pan[1 - (m - 5) % 2]? = some n) {a b : Int} (hf : flapS opn off top bot ((m - 5) / 2) ((m - 5) % 2) = ⟨a, b⟩) :
    innerAt off hei pan top bot opn c c m = ⟨1000 * arLo n off 1 - c - 2000 * b, 1000 * arHi n off - c - 2000 * a⟩ := by
  have e4 : ¬ ((m : Int) = 4 ∧ opn = false) := by omega
  have m4 : ¬ m < 4 := by omega
  have n4 : ¬ m = 4 := by omega
  simp only [innerAt, insideS, flatAt, if_neg m4, if_neg n4, lostL, if_neg e4, getD_eq hx, hf, gapS, nearL, arLo, arHi, Int.one_mul]
  congr 1 <;> omega

set_option maxHeartbeats 1000000 in
theorem widened_any (tab hei slo : Int) (pan top bot : List Int) (pa ta ba : Option Addr) (pc tc bc : Nat) (opn : Bool) (G : GoodB tab hei slo pan top bot opn) (off c sl sh : Int) (o0 : 0 ≤ off) (o1 : off ≤ 5) (c0 : 0 ≤ c) (c1 : c ≤ 10000) (m : Nat) (hm : m < 9) (w : World) (hp : IRow w pa pan) (ht : IRow w ta top) (hb : IRow w ba bot) :
    Calls Try.prog 27 #[.agg #[.int .i64 sl, .int .i64 sh], .agg #[.int .i64 tab, .slice pa pan.length pc, .int .i64 hei, .slice ta top.length tc, .slice ba bot.length bc, .int .i64 slo, .bool opn], .int .i64 (m : Int), .int .i64 c, .int .i64 off] w fun e w' => e = .returned (.agg #[.int .i64 (min sl (innerAt off hei pan top bot opn c c m).lo), .int .i64 (max sh (innerAt off hei pan top bot opn c c m).hi)]) ∧ Gr w w' := by
  by_cases h4 : m < 4
  · obtain ⟨n, hx⟩ := get_of_lt (l := pan) (k := m) (by rw [G.l4]; exact h4)
    obtain ⟨n0, n1⟩ := in_at G.gpan hx
    obtain ⟨e1, e2⟩ := ar_end (off := off) n0 n1 o0
    refine (widened_A tab hei slo pan top bot pa ta ba pc tc bc opn m G off c sl sh o0 o1 c0 c1 n h4 hx w hp ht hb).mono ?_
    rintro e w' ⟨lo, hi, rfl, g, V⟩
    obtain ⟨rfl, rfl⟩ := V.done e2 (by omega)
    rw [inner_panel h4 hx]
    exact ⟨sp_eq (by dsimp only; omega) (by dsimp only; omega), g⟩
  by_cases e4 : m = 4
  · subst e4
    obtain ⟨n0, n1⟩ := in_one G.ghei
    obtain ⟨e1, e2⟩ := ar_end (off := off) n0 n1 o0
    refine (widened_B tab hei slo pan top bot pa ta ba pc tc bc opn G off c sl sh o0 o1 c0 c1 w hp ht hb).mono ?_
    rintro e w' ⟨lo, hi, rfl, g, V⟩
    obtain ⟨rfl, rfl⟩ := V.done e2 (by omega)
    rw [inner_high]
    exact ⟨sp_eq (by dsimp only; omega) (by dsimp only; omega), g⟩
  have hm5 : m = 5 ∨ m = 6 ∨ m = 7 ∨ m = 8 := by omega
  rcases hm5 with rfl | rfl | rfl | rfl
  · cases opn
    · obtain ⟨n, hx⟩ := get_of_lt (l := pan) (k := 1) (by rw [G.l4]; omega)
      obtain ⟨n0, n1⟩ := in_at G.gpan hx
      obtain ⟨e1, e2⟩ := ar_end (off := off) n0 n1 o0
      obtain ⟨f, hf⟩ := get_of_lt (l := top) (k := 0) (by rw [G.t2]; omega)
      obtain ⟨f0, f1⟩ := in_at G.gtop hf
      obtain ⟨d1, d2⟩ := ar_end (off := off) f0 f1 o0
      refine (widened_E5 tab hei slo pan top bot pa ta ba pc tc bc G off c sl sh o0 o1 c0 c1 n f hx hf w hp ht hb).mono ?_
      rintro e w' ⟨lo, hi, rfl, g, V⟩
      obtain ⟨rfl, rfl⟩ := V.done e2 d2
      rw [inner_gap (a := arLo f off 0) (b := arHi f off) (by omega) hx (by simp [flapS, nearL, arLo, arHi, hf])]
      exact ⟨sp_eq (by dsimp only; omega) (by dsimp only; omega), g⟩
    · obtain ⟨n, hx⟩ := get_of_lt (l := pan) (k := 1) (by rw [G.l4]; omega)
      obtain ⟨n0, n1⟩ := in_at G.gpan hx
      obtain ⟨e1, e2⟩ := ar_end (off := off) n0 n1 o0
      refine (widened_F5 tab hei slo pan top bot pa ta ba pc tc bc G off c sl sh o0 o1 c0 c1 n hx w hp ht hb).mono ?_
      rintro e w' ⟨lo, hi, rfl, g, V⟩
      obtain ⟨rfl, rfl⟩ := V.done e2 (by omega)
      rw [inner_gap (a := 0) (b := 0) (by omega) hx (by simp [flapS])]
      exact ⟨sp_eq (by dsimp only; omega) (by dsimp only; omega), g⟩
  · cases opn
    · obtain ⟨n, hx⟩ := get_of_lt (l := pan) (k := 0) (by rw [G.l4]; omega)
      obtain ⟨n0, n1⟩ := in_at G.gpan hx
      obtain ⟨e1, e2⟩ := ar_end (off := off) n0 n1 o0
      obtain ⟨f, hf⟩ := get_of_lt (l := top) (k := 1) (by rw [G.t2]; omega)
      obtain ⟨f0, f1⟩ := in_at G.gtop hf
      obtain ⟨d1, d2⟩ := ar_end (off := off) f0 f1 o0
      refine (widened_E6 tab hei slo pan top bot pa ta ba pc tc bc G off c sl sh o0 o1 c0 c1 n f hx hf w hp ht hb).mono ?_
      rintro e w' ⟨lo, hi, rfl, g, V⟩
      obtain ⟨rfl, rfl⟩ := V.done e2 d2
      rw [inner_gap (a := arLo f off 0) (b := arHi f off) (by omega) hx (by simp [flapS, nearL, arLo, arHi, hf])]
      exact ⟨sp_eq (by dsimp only; omega) (by dsimp only; omega), g⟩
    · obtain ⟨n, hx⟩ := get_of_lt (l := pan) (k := 0) (by rw [G.l4]; omega)
      obtain ⟨n0, n1⟩ := in_at G.gpan hx
      obtain ⟨e1, e2⟩ := ar_end (off := off) n0 n1 o0
      refine (widened_F6 tab hei slo pan top bot pa ta ba pc tc bc G off c sl sh o0 o1 c0 c1 n hx w hp ht hb).mono ?_
      rintro e w' ⟨lo, hi, rfl, g, V⟩
      obtain ⟨rfl, rfl⟩ := V.done e2 (by omega)
      rw [inner_gap (a := 0) (b := 0) (by omega) hx (by simp [flapS])]
      exact ⟨sp_eq (by dsimp only; omega) (by dsimp only; omega), g⟩
  · obtain ⟨n, hx⟩ := get_of_lt (l := pan) (k := 1) (by rw [G.l4]; omega)
    obtain ⟨n0, n1⟩ := in_at G.gpan hx
    obtain ⟨e1, e2⟩ := ar_end (off := off) n0 n1 o0
    obtain ⟨f, hf⟩ := get_of_lt (l := bot) (k := 0) (by rw [G.b2]; omega)
    obtain ⟨f0, f1⟩ := in_at G.gbot hf
    obtain ⟨d1, d2⟩ := ar_end (off := off) f0 f1 o0
    refine (widened_E7 tab hei slo pan top bot pa ta ba pc tc bc opn G off c sl sh o0 o1 c0 c1 n f hx hf w hp ht hb).mono ?_
    rintro e w' ⟨lo, hi, rfl, g, V⟩
    obtain ⟨rfl, rfl⟩ := V.done e2 d2
    rw [inner_gap (a := arLo f off 0) (b := arHi f off) (by omega) hx (by simp [flapS, nearL, arLo, arHi, hf])]
    exact ⟨sp_eq (by dsimp only; omega) (by dsimp only; omega), g⟩
  · obtain ⟨n, hx⟩ := get_of_lt (l := pan) (k := 0) (by rw [G.l4]; omega)
    obtain ⟨n0, n1⟩ := in_at G.gpan hx
    obtain ⟨e1, e2⟩ := ar_end (off := off) n0 n1 o0
    obtain ⟨f, hf⟩ := get_of_lt (l := bot) (k := 1) (by rw [G.b2]; omega)
    obtain ⟨f0, f1⟩ := in_at G.gbot hf
    obtain ⟨d1, d2⟩ := ar_end (off := off) f0 f1 o0
    refine (widened_E8 tab hei slo pan top bot pa ta ba pc tc bc opn G off c sl sh o0 o1 c0 c1 n f hx hf w hp ht hb).mono ?_
    rintro e w' ⟨lo, hi, rfl, g, V⟩
    obtain ⟨rfl, rfl⟩ := V.done e2 d2
    rw [inner_gap (a := arLo f off 0) (b := arHi f off) (by omega) hx (by simp [flapS, nearL, arLo, arHi, hf])]
    exact ⟨sp_eq (by dsimp only; omega) (by dsimp only; omega), g⟩

def innersE (e cl ch off : Int) : Int := firstE [e, measE [⟨cl, ch⟩], if inB 0 5 [off] = true then 0 else 7]

set_option maxRecDepth 100000 in
set_option maxHeartbeats 4000000 in
theorem inner_err (tab hei slo : Int) (pan top bot : List Int) (pa ta ba : Option Addr) (pc tc bc : Nat) (opn : Bool) (cl ch off e1 E : Int) (he : checkE tab hei slo pan top bot opn = e1) (hE : innersE e1 cl ch off = E) (h0 : E ≠ 0) (w : World) (hp : IRow w pa pan) (ht : IRow w ta top) (hb : IRow w ba bot) :
    Calls Try.prog 23 #[.agg #[.int .i64 tab, .slice pa pan.length pc, .int .i64 hei, .slice ta top.length tc, .slice ba bot.length bc, .int .i64 slo, .bool opn], .agg #[.int .i64 cl, .int .i64 ch], .int .i64 off] w fun e w' => e = .returned (.tuple #[.slice none 0 0, .int .i64 E]) ∧ Gr w w' := by
  have gg := (Gr.al w (.cells #[.int .i64 tab, .slice pa pan.length pc, .int .i64 hei, .slice ta top.length tc, .slice ba bot.length bc, .int .i64 slo, .bool opn] 24)).tr (Gr.al _ (.cells #[.int .i64 cl, .int .i64 ch] 37))
  have h1 := (Box.new w [.int .i64 tab, .slice pa pan.length pc, .int .i64 hei, .slice ta top.length tc, .slice ba bot.length bc, .int .i64 slo, .bool opn] 24 w.heap.size rfl).keep (Gr.al _ (.cells #[.int .i64 cl, .int .i64 ch] 37))
  have h2 := Box.new (w.alloc (.cells #[.int .i64 tab, .slice pa pan.length pc, .int .i64 hei, .slice ta top.length tc, .slice ba bot.length bc, .int .i64 slo, .bool opn] 24)) [.int .i64 cl, .int .i64 ch] 37 (w.heap.size + 1) (by simp)
  obtain ⟨e2, he2⟩ : ∃ e, measE [⟨cl, ch⟩] = e := ⟨_, rfl⟩
  obtain ⟨e3, he3⟩ : ∃ e : Int, (if inB 0 5 [off] = true then 0 else 7) = e := ⟨_, rfl⟩
  have cB := fun v (k1 : IRow v pa pan) (k2 : IRow v ta top) (k3 : IRow v ba bot) => blank_any tab hei slo pan top bot pa ta ba pc tc bc opn v k1 k2 k3
  rw [he] at cB
  have cM := fun a v (k1 : SRow v a [⟨cl, ch⟩]) => measured_one cl ch a 1 v k1
  rw [he2] at cM
  have cK := fun v => known2_any off v
  have hE' : firstE [e1, e2, e3] = E := by
    rw [← hE]
    unfold innersE
    rw [he2, he3]
  have cE := fun a v (k1 : IRow v a [e1, e2, e3]) => first_3 e1 e2 e3 a 3 v k1
  rw [hE'] at cE
  rw [he3] at cK
  have CB := Lib.hid cB
  have CM := Lib.hid cM
  have CK := Lib.hid cK
  have CE := Lib.hid cE
  have HP := Lib.hid hp
  have HT := Lib.hid ht
  have HB := Lib.hid hb
  have h0' : (E != 0) = true := by rw [bne_iff_ne]; exact h0
  clear cB cM cK cE he he2 he3 hE hE' hp ht hb h0
  go_enter Try.func23, Try.ntmps23
  go_upto_region 1 with fail
  refine wp_abs (fun U => Gr w U ∧ Box U w.heap.size [.int .i64 tab, .slice pa pan.length pc, .int .i64 hei, .slice ta top.length tc, .slice ba bot.length bc, .int .i64 slo, .bool opn] ∧ Box U (w.heap.size + 1) [.int .i64 cl, .int .i64 ch]) ⟨gg, h1, h2⟩ ?_
  clear gg h1 h2
  rintro U ⟨gU, h1, h2⟩
  refine wp_region_facts 9 [(1, 0), (3, 2), (4, 3), (6, 5), (7, 1), (7, 4), (7, 6), (8, 7)] (fun x => ⟨#[.agg #[.int .i64 tab, .slice pa pan.length pc, .int .i64 hei, .slice ta top.length tc, .slice ba bot.length bc, .int .i64 slo, .bool opn], .agg #[.int .i64 cl, .int .i64 ch], .int .i64 off, .pointer (some ⟨w.heap.size, 0, none⟩), .pointer (some ⟨(w.heap.size + 1), 0, none⟩), undef, .slice none 0 0, .int .i64 0, undef, undef, undef, undef, x 0, x 1, x 2, x 3, x 4, x 5, x 6, x 7, x 8, undef, undef, undef, undef, undef, undef, undef, undef, undef, undef, undef, undef, undef, undef, undef, undef, undef, undef, undef], []⟩) (fun _ => undef) [fun _ x => x = .agg #[.int .i64 tab, .slice pa pan.length pc, .int .i64 hei, .slice ta top.length tc, .slice ba bot.length bc, .int .i64 slo, .bool opn], fun _ x => x = .int .i64 e1, fun _ x => x = .agg #[.int .i64 cl, .int .i64 ch], fun v x => ∃ a, x = .slice a 1 1 ∧ SRow v a [⟨cl, ch⟩], fun _ x => x = .int .i64 e2, fun _ x => x = .int .i64 off, fun _ x => x = .int .i64 e3, fun v x => ∃ a, x = .slice a 3 3 ∧ IRow v a [e1, e2, e3], fun _ x => x = .int .i64 E] (by rfl) (by kernel_rfl) (by kernel_rfl) (by kernel_rfl) (stays_cons (Stays.eq _) (stays_cons (Stays.eq _) (stays_cons (Stays.eq _) (stays_cons ((show Stays (fun v x => ∃ a, x = .slice a 1 1 ∧ SRow v a [⟨cl, ch⟩]) from fun v v' x g ⟨a, e, r⟩ => ⟨a, e, r.grow g⟩)) (stays_cons (Stays.eq _) (stays_cons (Stays.eq _) (stays_cons (Stays.eq _) (stays_cons ((show Stays (fun v x => ∃ a, x = .slice a 3 3 ∧ IRow v a [e1, e2, e3]) from fun v v' x g ⟨a, e, r⟩ => ⟨a, e, r.grow g⟩)) (stays_cons (Stays.eq _) stays_nil))))))))) ?step1 ?fin1
  case step1 =>
    rintro i hi x v gv hd K hK
    have hi8 : i = 0 ∨ i = 1 ∨ i = 2 ∨ i = 3 ∨ i = 4 ∨ i = 5 ∨ i = 6 ∨ i = 7 ∨ i = 8 := by omega
    rcases hi8 with rfl | rfl | rfl | rfl | rfl | rfl | rfl | rfl | rfl
    · show wpOp Try.prog _ _ 0 K (⟨#[_, _, _, _, _, _, _, _, _, _, _, _, x 0, x 1, x 2, x 3, x 4, x 5, x 6, x 7, x 8, _, _, _, _, _, _, _, _, _, _, _, _, _, _, _, _, _, _, _], []⟩ : Act) v
      refine wpOp_step rfl (fun K' hK' => ?_)
      rw [if_pos (by rfl)]
      refine wp_load_mid 24 _ rfl w.heap.size 0 (by rfl) [.int .i64 tab, .slice pa pan.length pc, .int .i64 hei, .slice ta top.length tc, .slice ba bot.length bc, .int .i64 slo, .bool opn] _ (fun j u hu => by rw [Nat.zero_add]; exact (h1.keep gv).2 j u hu) Try.underlying24 rfl (by kernel_rfl) ?_
      exact hK' _ _ (hK _ _ (Below.refl _ _) (at_of rfl (rfl)))
    · obtain ⟨x, rfl⟩ := upd_of (show x 0 = .agg #[.int .i64 tab, .slice pa pan.length pc, .int .i64 hei, .slice ta top.length tc, .slice ba bot.length bc, .int .i64 slo, .bool opn] from hd 0 _ (by simp) rfl)
      show wpOp Try.prog _ _ 1 K (⟨#[_, _, _, _, _, _, _, _, _, _, _, _, .agg #[.int .i64 tab, .slice pa pan.length pc, .int .i64 hei, .slice ta top.length tc, .slice ba bot.length bc, .int .i64 slo, .bool opn], x 1, x 2, x 3, x 4, x 5, x 6, x 7, x 8, _, _, _, _, _, _, _, _, _, _, _, _, _, _, _, _, _, _, _], []⟩ : Act) v
      refine wpOp_step rfl (fun K' hK' => ?_)
      go_simp
      refine (CB.out v (HP.out.grow (gU.tr gv)) (HT.out.grow (gU.tr gv)) (HB.out.grow (gU.tr gv))).mono ?_
      rintro e v' ⟨rfl, hg⟩
      exact hK' _ _ (hK _ _ hg (at_of rfl (rfl)))
    · show wpOp Try.prog _ _ 2 K (⟨#[_, _, _, _, _, _, _, _, _, _, _, _, x 0, x 1, x 2, x 3, x 4, x 5, x 6, x 7, x 8, _, _, _, _, _, _, _, _, _, _, _, _, _, _, _, _, _, _, _], []⟩ : Act) v
      refine wpOp_step rfl (fun K' hK' => ?_)
      rw [if_pos (by rfl)]
      refine wp_load_mid 37 _ rfl (w.heap.size + 1) 0 (by rfl) [.int .i64 cl, .int .i64 ch] _ (fun j u hu => by rw [Nat.zero_add]; exact (h2.keep gv).2 j u hu) Try.underlying37 rfl (by kernel_rfl) ?_
      exact hK' _ _ (hK _ _ (Below.refl _ _) (at_of rfl (rfl)))
    · obtain ⟨x, rfl⟩ := upd_of (show x 2 = .agg #[.int .i64 cl, .int .i64 ch] from hd 2 _ (by simp) rfl)
      show wpOp Try.prog _ _ 3 K (⟨#[_, _, _, _, _, _, _, _, _, _, _, _, x 0, x 1, .agg #[.int .i64 cl, .int .i64 ch], x 3, x 4, x 5, x 6, x 7, x 8, _, _, _, _, _, _, _, _, _, _, _, _, _, _, _, _, _, _, _], []⟩ : Act) v
      refine wpOp_step rfl (fun K' hK' => ?_)
      go_simp
      have hg := Gr.al v (.cells (List.toArray [.int .i64 cl, .int .i64 ch]) 37)
      exact hK' _ _ (hK _ _ hg (at_of rfl (⟨_, rfl, SRow.new1 v 37 cl ch v.heap.size rfl⟩)))
    · obtain ⟨a3, e3, r3⟩ := hd 3 _ (by simp) rfl
      obtain ⟨x, rfl⟩ := upd_of (show x 3 = .slice a3 1 1 from e3)
      show wpOp Try.prog _ _ 4 K (⟨#[_, _, _, _, _, _, _, _, _, _, _, _, x 0, x 1, x 2, .slice a3 1 1, x 4, x 5, x 6, x 7, x 8, _, _, _, _, _, _, _, _, _, _, _, _, _, _, _, _, _, _, _], []⟩ : Act) v
      refine wpOp_step rfl (fun K' hK' => ?_)
      go_simp
      refine (CM.out a3 v r3).mono ?_
      rintro e v' ⟨rfl, hg⟩
      exact hK' _ _ (hK _ _ hg (at_of rfl (rfl)))
    · show wpOp Try.prog _ _ 5 K (⟨#[_, _, _, _, _, _, _, _, _, _, _, _, x 0, x 1, x 2, x 3, x 4, x 5, x 6, x 7, x 8, _, _, _, _, _, _, _, _, _, _, _, _, _, _, _, _, _, _, _], []⟩ : Act) v
      refine wpOp_step rfl (fun K' hK' => ?_)
      go_simp
      exact hK' _ _ (hK _ _ (Below.refl _ _) (at_of rfl (rfl)))
    · obtain ⟨x, rfl⟩ := upd_of (show x 5 = .int .i64 off from hd 5 _ (by simp) rfl)
      show wpOp Try.prog _ _ 6 K (⟨#[_, _, _, _, _, _, _, _, _, _, _, _, x 0, x 1, x 2, x 3, x 4, .int .i64 off, x 6, x 7, x 8, _, _, _, _, _, _, _, _, _, _, _, _, _, _, _, _, _, _, _], []⟩ : Act) v
      refine wpOp_step rfl (fun K' hK' => ?_)
      go_simp
      refine (CK.out v).mono ?_
      rintro e v' ⟨rfl, hg⟩
      exact hK' _ _ (hK _ _ hg (at_of rfl (rfl)))
    · obtain ⟨x, rfl⟩ := upd_of (show x 1 = .int .i64 e1 from hd 1 _ (by simp) rfl)
      obtain ⟨x, rfl⟩ := upd_of (show x 4 = .int .i64 e2 from hd 4 _ (by simp) rfl)
      obtain ⟨x, rfl⟩ := upd_of (show x 6 = .int .i64 e3 from hd 6 _ (by simp) rfl)
      show wpOp Try.prog _ _ 7 K (⟨#[_, _, _, _, _, _, _, _, _, _, _, _, x 0, .int .i64 e1, x 2, x 3, .int .i64 e2, x 5, .int .i64 e3, x 7, x 8, _, _, _, _, _, _, _, _, _, _, _, _, _, _, _, _, _, _, _], []⟩ : Act) v
      refine wpOp_step rfl (fun K' hK' => ?_)
      go_simp
      have hg := Gr.al v (.cells (List.toArray [.int .i64 e1, .int .i64 e2, .int .i64 e3]) 28)
      exact hK' _ _ (hK _ _ hg (at_of rfl (⟨_, rfl, IRow.new' v 28 [e1, e2, e3] (by simp) v.heap.size rfl _ (by rfl)⟩)))
    · obtain ⟨a7, e7, r7⟩ := hd 7 _ (by simp) rfl
      obtain ⟨x, rfl⟩ := upd_of (show x 7 = .slice a7 3 3 from e7)
      show wpOp Try.prog _ _ 8 K (⟨#[_, _, _, _, _, _, _, _, _, _, _, _, x 0, x 1, x 2, x 3, x 4, x 5, x 6, .slice a7 3 3, x 8, _, _, _, _, _, _, _, _, _, _, _, _, _, _, _, _, _, _, _], []⟩ : Act) v
      refine wpOp_step rfl (fun K' hK' => ?_)
      go_simp
      refine (CE.out a7 v r7).mono ?_
      rintro e v' ⟨rfl, hg⟩
      exact hK' _ _ (hK _ _ hg (at_of rfl (rfl)))
  case fin1 =>
    rintro x v gv hd
    obtain ⟨x, rfl⟩ := upd_of (show x 8 = .int .i64 E from hd 8 _ (by omega) rfl)
    clear hd
    show wpList Try.prog _ _ (List.drop 9 _) (⟨#[_, _, _, _, _, _, _, _, _, _, _, _, x 0, x 1, x 2, x 3, x 4, x 5, x 6, x 7, .int .i64 E, _, _, _, _, _, _, _, _, _, _, _, _, _, _, _, _, _, _, _], []⟩ : Act) v
    simp only [List.drop_succ_cons, List.drop_zero]
    go_wp2
    refine bodyPost_ret (v := .tuple #[.slice none 0 0, .int .i64 E]) (by simp [results, Try.results23, go_sem]) rfl ⟨rfl, gU.tr gv⟩

end Go.Proofs.Ytafkoococfnakaa

namespace Go.Proofs.Ytafkoococfnakaa
set_option linter.unusedVariables false
set_option linter.unusedSimpArgs false
open Go.RowKit

theorem inner_len (off hei : Int) (pan top bot : List Int) (opn : Bool) (cl ch : Int) (n : Nat) : (innerL off hei pan top bot opn cl ch n).length = n := by simp [innerL]

theorem inner_get {off hei : Int} {pan top bot : List Int} {opn : Bool} {cl ch : Int} {n m : Nat} (h : m < n) : (innerL off hei pan top bot opn cl ch n)[m]? = some (innerAt off hei pan top bot opn cl ch m) := by simp [innerL, h]

theorem inner_ok9 (tab hei slo : Int) (pan top bot : List Int) (pa ta ba : Option Addr) (pc tc bc : Nat) (opn : Bool) (off cl ch : Int) (G : GoodB tab hei slo pan top bot opn) (hoff : inB 0 5 [off] = true) (hc : okSpan 1 10000 cl ch = true) (L : List Sp) (hL : innerL off hei pan top bot opn cl ch 9 = L) (w : World) (hp : IRow w pa pan) (ht : IRow w ta top) (hb : IRow w ba bot) :
    Calls Try.prog 23 #[.agg #[.int .i64 tab, .slice pa pan.length pc, .int .i64 hei, .slice ta top.length tc, .slice ba bot.length bc, .int .i64 slo, .bool opn], .agg #[.int .i64 cl, .int .i64 ch], .int .i64 off] w fun e w' => ∃ b o cap, e = .returned (.tuple #[.slice (some ⟨b, o, none⟩) 9 cap, .int .i64 0]) ∧ Gr w w' ∧ SRow w' (some ⟨b, o, none⟩) L := by
  subst hL
  refine (inner_ok tab hei slo off pan top bot pa ta ba pc tc bc opn cl ch G hoff hc w hp ht hb).mono ?_
  rintro e w' ⟨a, cap, he, hg, hr⟩
  rw [inner_len] at he
  obtain ⟨b, o, rfl, _⟩ := SRow.get hr (inner_get (m := 0) (by omega))
  exact ⟨_, _, cap, he, hg, hr⟩

theorem inner_bdO {tab hei slo off : Int} {pan top bot : List Int} {opn : Bool} {cl ch : Int} (G : GoodB tab hei slo pan top bot opn) (f0 : 0 ≤ off) (f1 : off ≤ 5) (c0 : 0 ≤ cl) (c1 : cl ≤ 10000) (c2 : 0 ≤ ch) (c3 : ch ≤ 10000) {k : Nat} (hk : k < 9) : SpB 1000000000 (innerAt off hei pan top bot opn cl ch k) := by
  obtain ⟨a, b, c, d⟩ := flat_bd (off := off) G f0 (by omega) hk
  have hL : lostL k opn = 1 ∨ lostL k opn = 2 := by unfold lostL; split <;> simp
  unfold innerAt insideS
  rcases hL with e | e <;> rw [e] <;> exact ⟨by simp only; omega, by simp only; omega, by simp only; omega, by simp only; omega⟩

theorem idx2_0 (a b : Value) (w : World) : (Instr.index 45 (.agg #[a, b]) (.int .i64 0)).run Try.prog w = .ok a w := by kernel_rfl

theorem idx2_1 (a b : Value) (w : World) : (Instr.index 45 (.agg #[a, b]) (.int .i64 1)).run Try.prog w = .ok b w := by kernel_rfl
attribute [local go_sem] idx2_0 idx2_1

/-- Both ends of the calipers make the span. -/
theorem inner_both {off hei : Int} {pan top bot : List Int} {opn : Bool} {cl ch : Int} (h : cl ≤ ch) (m : Nat) (b0 : -1000000000 ≤ (innerAt off hei pan top bot opn cl ch m).lo) (b1 : (innerAt off hei pan top bot opn cl ch m).lo ≤ 1000000000) (b2 : -1000000000 ≤ (innerAt off hei pan top bot opn cl ch m).hi) (b3 : (innerAt off hei pan top bot opn cl ch m).hi ≤ 1000000000) :
    min (min 1099511627776 (innerAt off hei pan top bot opn cl cl m).lo) (innerAt off hei pan top bot opn ch ch m).lo = (innerAt off hei pan top bot opn cl ch m).lo ∧ max (max (-1099511627776) (innerAt off hei pan top bot opn cl cl m).hi) (innerAt off hei pan top bot opn ch ch m).hi = (innerAt off hei pan top bot opn cl ch m).hi := by
  have hL : 0 ≤ lostL m opn := by unfold lostL; split <;> omega
  have q := Int.mul_le_mul_of_nonneg_left h hL
  simp only [innerAt, insideS] at *
  omega

set_option maxRecDepth 100000 in
set_option maxHeartbeats 8000000 in
theorem inners_body (tab hei slo : Int) (pan top bot : List Int) (pa ta ba : Option Addr) (pc tc bc : Nat) (opn : Bool) (cl ch off : Int) (w : World) (hp : IRow w pa pan) (ht : IRow w ta top) (hb : IRow w ba bot) :
    Calls Try.prog 4 #[.agg #[.int .i64 tab, .slice pa pan.length pc, .int .i64 hei, .slice ta top.length tc, .slice ba bot.length bc, .int .i64 slo, .bool opn], .agg #[.int .i64 cl, .int .i64 ch], .int .i64 off] w fun e w' => e = .returned (.bool true) ∧ Gr w w' := by
  have gg := (Gr.al w (.cells #[.int .i64 tab, .slice pa pan.length pc, .int .i64 hei, .slice ta top.length tc, .slice ba bot.length bc, .int .i64 slo, .bool opn] 24)).tr (Gr.al _ (.cells #[.int .i64 cl, .int .i64 ch] 37))
  have h1 := (Box.new w [.int .i64 tab, .slice pa pan.length pc, .int .i64 hei, .slice ta top.length tc, .slice ba bot.length bc, .int .i64 slo, .bool opn] 24 w.heap.size rfl).keep (Gr.al _ (.cells #[.int .i64 cl, .int .i64 ch] 37))
  have h2 := Box.new (w.alloc (.cells #[.int .i64 tab, .slice pa pan.length pc, .int .i64 hei, .slice ta top.length tc, .slice ba bot.length bc, .int .i64 slo, .bool opn] 24)) [.int .i64 cl, .int .i64 ch] 37 (w.heap.size + 1) (by simp)
  have HP := Lib.hid hp
  have HT := Lib.hid ht
  have HB := Lib.hid hb
  clear hp ht hb
  obtain ⟨d, hd⟩ : ∃ d, (decide (10 < pan.length) || (decide (10 < top.length) || decide (10 < bot.length))) = d := ⟨_, rfl⟩
  have HD := Lib.hid hd
  clear hd
  obtain ⟨b0, b1, b2, b3, b4, b5, b6⟩ := h1.c7
  cases d with
  | true =>
    go_enter Try.func4, Try.ntmps4
    go_wp2_with (first
      | (go_at_call 14; refine (large02_any tab hei slo pan top bot pa ta ba pc tc bc opn true HD.out _).mono ?_; rintro e w1 ⟨rfl, g1⟩)
      | (go_at_call 15; refine (known_any _).mono ?_; rintro e w2 ⟨rfl, g2⟩))
    go_ret
    exact ⟨rfl, gg.tr (g1.tr g2)⟩
  | false =>
  have hl : pan.length ≤ 10 ∧ top.length ≤ 10 ∧ bot.length ≤ 10 := by
    have h := HD.out
    simp at h
    omega
  have HL := Lib.hid hl
  clear hl
  go_enter Try.func4, Try.ntmps4
  go_upto_region 4 with (first
    | (go_at_call 14; refine (large02_any tab hei slo pan top bot pa ta ba pc tc bc opn false HD.out _).mono ?_; rintro e w1 ⟨rfl, g1⟩; replace gg := gg.tr g1; replace h1 := h1.keep g1; replace h2 := h2.keep g1; clear b0 b1 b2 b3 b4 b5 b6; obtain ⟨b0, b1, b2, b3, b4, b5, b6⟩ := h1.c7)
    | (go_at_call 16; refine (own02_any tab hei slo pan top bot pa ta ba pc tc bc opn (by have := HL.out.1; omega) (by have := HL.out.2.1; omega) (by have := HL.out.2.2; omega) _ (HP.out.grow gg) (HT.out.grow gg) (HB.out.grow gg)).mono ?_; rintro e w2 ⟨a3, c3, a7, c7, a11, c11, rfl, g2, r3, r7, r11, _, _, _⟩))
  obtain ⟨B, hB⟩ : ∃ B, B = w2.heap.size := ⟨_, rfl⟩
  have ho := Box.new w2 [.int .i64 tab, .slice a3 pan.length c3, .int .i64 hei, .slice a7 top.length c7, .slice a11 bot.length c11, .int .i64 slo, .bool opn] 24 B hB
  have gq := Gr.al w2 (.cells #[.int .i64 tab, .slice a3 pan.length c3, .int .i64 hei, .slice a7 top.length c7, .slice a11 bot.length c11, .int .i64 slo, .bool opn] 24)
  rw [← hB]
  refine wp_abs (fun X => Gr w X ∧ Box X w.heap.size [.int .i64 tab, .slice pa pan.length pc, .int .i64 hei, .slice ta top.length tc, .slice ba bot.length bc, .int .i64 slo, .bool opn] ∧ Box X (w.heap.size + 1) [.int .i64 cl, .int .i64 ch] ∧ Box X B [.int .i64 tab, .slice a3 pan.length c3, .int .i64 hei, .slice a7 top.length c7, .slice a11 bot.length c11, .int .i64 slo, .bool opn] ∧ IRow X a3 pan ∧ IRow X a7 top ∧ IRow X a11 bot) ⟨gg.tr (g2.tr gq), h1.keep (g2.tr gq), h2.keep (g2.tr gq), ho, r3.grow gq, r7.grow gq, r11.grow gq⟩ ?_
  clear gg h1 h2 ho r3 r7 r11 gq hB b0 b1 b2 b3 b4 b5 b6 g1 g2 HL HD
  rintro X ⟨gU, h1, h2, ho, r3, r7, r11⟩
  obtain ⟨b0, b1, b2, b3, b4, b5, b6⟩ := h1.c7
  obtain ⟨u0, u1⟩ := h2.c2
  obtain ⟨o0, o1, o2, o3, o4, o5, o6⟩ := ho.c7
  obtain ⟨e1, he1⟩ : ∃ e, checkE tab hei slo pan top bot opn = e := ⟨_, rfl⟩
  obtain ⟨sp, hsp⟩ : ∃ d, okSpan 1 10000 cl ch = d := ⟨_, rfl⟩
  obtain ⟨lg, hlg⟩ : ∃ d, in1 0 5 off = d := ⟨_, rfl⟩
  have E1 := Lib.hid he1
  have SP := Lib.hid hsp
  have LG := Lib.hid hlg
  have hE : innersE e1 cl ch off = firstE [e1, if sp = true then 0 else 3, if lg = true then 0 else 7] := by
    unfold innersE measE
    simp only [List.all_cons, List.all_nil, okSp, Bool.and_true, hsp, inB_one, hlg]
  have HE := Lib.hid hE
  clear he1 hsp hlg hE
  by_cases hz1 : e1 = 0
  case neg =>
    have Z1 := Lib.hid hz1
    have q1 : (e1 == 0) = false := by simpa using hz1
    have q2 : (e1 != 0) = true := by rw [bne_iff_ne]; exact hz1
    have q3 : (e1 == e1) = true := beq_self_eq_true e1
    have HE := Lib.hid (HE.out.trans (show _ = e1 by simp [firstE, hz1]))
    clear hz1
    go_wp2_with (first
      | (go_at_call 23; refine (inner_err tab hei slo pan top bot a3 a7 a11 c3 c7 c11 opn cl ch off e1 e1 E1.out HE.out Z1.out _ r3 r7 r11).mono ?_; rintro e w4 ⟨rfl, g4⟩; replace gU := gU.tr g4; replace h1 := h1.keep g4; replace h2 := h2.keep g4; replace ho := ho.keep g4; replace r3 := r3.grow g4; replace r7 := r7.grow g4; replace r11 := r11.grow g4; clear g4 b0 b1 b2 b3 b4 b5 b6 u0 u1 o0 o1 o2 o3 o4 o5 o6; obtain ⟨b0, b1, b2, b3, b4, b5, b6⟩ := h1.c7; obtain ⟨u0, u1⟩ := h2.c2; obtain ⟨o0, o1, o2, o3, o4, o5, o6⟩ := ho.c7)
      | (go_at_call 20; refine (same02_eq tab hei slo pan top bot pa ta ba pc tc bc opn a3 a7 a11 c3 c7 c11 _ (HP.out.grow gU) (HT.out.grow gU) (HB.out.grow gU) r3 r7 r11).mono ?_; rintro e w5 ⟨rfl, g5⟩; replace gU := gU.tr g5; replace h1 := h1.keep g5; replace h2 := h2.keep g5; replace ho := ho.keep g5; replace r3 := r3.grow g5; replace r7 := r7.grow g5; replace r11 := r11.grow g5; clear g5 b0 b1 b2 b3 b4 b5 b6 u0 u1 o0 o1 o2 o3 o4 o5 o6; obtain ⟨b0, b1, b2, b3, b4, b5, b6⟩ := h1.c7; obtain ⟨u0, u1⟩ := h2.c2; obtain ⟨o0, o1, o2, o3, o4, o5, o6⟩ := ho.c7)
      | (go_at_call 21; refine (refCheck_eq tab hei slo pan top bot pa ta ba pc tc bc opn _ E1.out _ (HP.out.grow gU) (HT.out.grow gU) (HB.out.grow gU)).mono ?_; rintro e w7 ⟨rfl, g7⟩; replace gU := gU.tr g7; replace h1 := h1.keep g7; replace h2 := h2.keep g7; replace ho := ho.keep g7; replace r3 := r3.grow g7; replace r7 := r7.grow g7; replace r11 := r11.grow g7; clear g7 b0 b1 b2 b3 b4 b5 b6 u0 u1 o0 o1 o2 o3 o4 o5 o6; obtain ⟨b0, b1, b2, b3, b4, b5, b6⟩ := h1.c7; obtain ⟨u0, u1⟩ := h2.c2; obtain ⟨o0, o1, o2, o3, o4, o5, o6⟩ := ho.c7)
      | (go_at_call 15; refine (known_any _).mono ?_; rintro e w10 ⟨rfl, g10⟩))
    go_ret
    exact ⟨rfl, gU.tr g10⟩
  subst hz1
  cases sp with
  | false =>
    have HE := Lib.hid (HE.out.trans (show _ = (3 : Int) by simp [firstE]))
    go_wp2_with (first
      | (go_at_call 23; refine (inner_err tab hei slo pan top bot a3 a7 a11 c3 c7 c11 opn cl ch off 0 3 E1.out HE.out (by decide) _ r3 r7 r11).mono ?_; rintro e w4 ⟨rfl, g4⟩; replace gU := gU.tr g4; replace h1 := h1.keep g4; replace h2 := h2.keep g4; replace ho := ho.keep g4; replace r3 := r3.grow g4; replace r7 := r7.grow g4; replace r11 := r11.grow g4; clear g4 b0 b1 b2 b3 b4 b5 b6 u0 u1 o0 o1 o2 o3 o4 o5 o6; obtain ⟨b0, b1, b2, b3, b4, b5, b6⟩ := h1.c7; obtain ⟨u0, u1⟩ := h2.c2; obtain ⟨o0, o1, o2, o3, o4, o5, o6⟩ := ho.c7)
      | (go_at_call 20; refine (same02_eq tab hei slo pan top bot pa ta ba pc tc bc opn a3 a7 a11 c3 c7 c11 _ (HP.out.grow gU) (HT.out.grow gU) (HB.out.grow gU) r3 r7 r11).mono ?_; rintro e w5 ⟨rfl, g5⟩; replace gU := gU.tr g5; replace h1 := h1.keep g5; replace h2 := h2.keep g5; replace ho := ho.keep g5; replace r3 := r3.grow g5; replace r7 := r7.grow g5; replace r11 := r11.grow g5; clear g5 b0 b1 b2 b3 b4 b5 b6 u0 u1 o0 o1 o2 o3 o4 o5 o6; obtain ⟨b0, b1, b2, b3, b4, b5, b6⟩ := h1.c7; obtain ⟨u0, u1⟩ := h2.c2; obtain ⟨o0, o1, o2, o3, o4, o5, o6⟩ := ho.c7)
      | (go_at_call 21; refine (refCheck_eq tab hei slo pan top bot pa ta ba pc tc bc opn _ E1.out _ (HP.out.grow gU) (HT.out.grow gU) (HB.out.grow gU)).mono ?_; rintro e w7 ⟨rfl, g7⟩; replace gU := gU.tr g7; replace h1 := h1.keep g7; replace h2 := h2.keep g7; replace ho := ho.keep g7; replace r3 := r3.grow g7; replace r7 := r7.grow g7; replace r11 := r11.grow g7; clear g7 b0 b1 b2 b3 b4 b5 b6 u0 u1 o0 o1 o2 o3 o4 o5 o6; obtain ⟨b0, b1, b2, b3, b4, b5, b6⟩ := h1.c7; obtain ⟨u0, u1⟩ := h2.c2; obtain ⟨o0, o1, o2, o3, o4, o5, o6⟩ := ho.c7)
      | (go_at_call 24; refine (refSpan02_any cl ch 1 10000 _ SP.out _).mono ?_; rintro e w8 ⟨rfl, g8⟩; replace gU := gU.tr g8; replace h1 := h1.keep g8; replace h2 := h2.keep g8; replace ho := ho.keep g8; replace r3 := r3.grow g8; replace r7 := r7.grow g8; replace r11 := r11.grow g8; clear g8 b0 b1 b2 b3 b4 b5 b6 u0 u1 o0 o1 o2 o3 o4 o5 o6; obtain ⟨b0, b1, b2, b3, b4, b5, b6⟩ := h1.c7; obtain ⟨u0, u1⟩ := h2.c2; obtain ⟨o0, o1, o2, o3, o4, o5, o6⟩ := ho.c7)
      | (go_at_call 15; refine (known_any _).mono ?_; rintro e w10 ⟨rfl, g10⟩))
    go_ret
    exact ⟨rfl, gU.tr g10⟩
  | true =>
  cases lg with
  | false =>
    have HE := Lib.hid (HE.out.trans (show _ = (7 : Int) by simp [firstE]))
    go_wp2_with (first
      | (go_at_call 23; refine (inner_err tab hei slo pan top bot a3 a7 a11 c3 c7 c11 opn cl ch off 0 7 E1.out HE.out (by decide) _ r3 r7 r11).mono ?_; rintro e w4 ⟨rfl, g4⟩; replace gU := gU.tr g4; replace h1 := h1.keep g4; replace h2 := h2.keep g4; replace ho := ho.keep g4; replace r3 := r3.grow g4; replace r7 := r7.grow g4; replace r11 := r11.grow g4; clear g4 b0 b1 b2 b3 b4 b5 b6 u0 u1 o0 o1 o2 o3 o4 o5 o6; obtain ⟨b0, b1, b2, b3, b4, b5, b6⟩ := h1.c7; obtain ⟨u0, u1⟩ := h2.c2; obtain ⟨o0, o1, o2, o3, o4, o5, o6⟩ := ho.c7)
      | (go_at_call 20; refine (same02_eq tab hei slo pan top bot pa ta ba pc tc bc opn a3 a7 a11 c3 c7 c11 _ (HP.out.grow gU) (HT.out.grow gU) (HB.out.grow gU) r3 r7 r11).mono ?_; rintro e w5 ⟨rfl, g5⟩; replace gU := gU.tr g5; replace h1 := h1.keep g5; replace h2 := h2.keep g5; replace ho := ho.keep g5; replace r3 := r3.grow g5; replace r7 := r7.grow g5; replace r11 := r11.grow g5; clear g5 b0 b1 b2 b3 b4 b5 b6 u0 u1 o0 o1 o2 o3 o4 o5 o6; obtain ⟨b0, b1, b2, b3, b4, b5, b6⟩ := h1.c7; obtain ⟨u0, u1⟩ := h2.c2; obtain ⟨o0, o1, o2, o3, o4, o5, o6⟩ := ho.c7)
      | (go_at_call 21; refine (refCheck_eq tab hei slo pan top bot pa ta ba pc tc bc opn _ E1.out _ (HP.out.grow gU) (HT.out.grow gU) (HB.out.grow gU)).mono ?_; rintro e w7 ⟨rfl, g7⟩; replace gU := gU.tr g7; replace h1 := h1.keep g7; replace h2 := h2.keep g7; replace ho := ho.keep g7; replace r3 := r3.grow g7; replace r7 := r7.grow g7; replace r11 := r11.grow g7; clear g7 b0 b1 b2 b3 b4 b5 b6 u0 u1 o0 o1 o2 o3 o4 o5 o6; obtain ⟨b0, b1, b2, b3, b4, b5, b6⟩ := h1.c7; obtain ⟨u0, u1⟩ := h2.c2; obtain ⟨o0, o1, o2, o3, o4, o5, o6⟩ := ho.c7)
      | (go_at_call 24; refine (refSpan02_any cl ch 1 10000 _ SP.out _).mono ?_; rintro e w8 ⟨rfl, g8⟩; replace gU := gU.tr g8; replace h1 := h1.keep g8; replace h2 := h2.keep g8; replace ho := ho.keep g8; replace r3 := r3.grow g8; replace r7 := r7.grow g8; replace r11 := r11.grow g8; clear g8 b0 b1 b2 b3 b4 b5 b6 u0 u1 o0 o1 o2 o3 o4 o5 o6; obtain ⟨b0, b1, b2, b3, b4, b5, b6⟩ := h1.c7; obtain ⟨u0, u1⟩ := h2.c2; obtain ⟨o0, o1, o2, o3, o4, o5, o6⟩ := ho.c7)
      | (go_at_call 25; refine (refIn02_any off 0 5 _ LG.out _).mono ?_; rintro e w9 ⟨rfl, g9⟩; replace gU := gU.tr g9; replace h1 := h1.keep g9; replace h2 := h2.keep g9; replace ho := ho.keep g9; replace r3 := r3.grow g9; replace r7 := r7.grow g9; replace r11 := r11.grow g9; clear g9 b0 b1 b2 b3 b4 b5 b6 u0 u1 o0 o1 o2 o3 o4 o5 o6; obtain ⟨b0, b1, b2, b3, b4, b5, b6⟩ := h1.c7; obtain ⟨u0, u1⟩ := h2.c2; obtain ⟨o0, o1, o2, o3, o4, o5, o6⟩ := ho.c7)
      | (go_at_call 15; refine (known_any _).mono ?_; rintro e w10 ⟨rfl, g10⟩))
    go_ret
    exact ⟨rfl, gU.tr g10⟩
  | true =>
  obtain ⟨L, hL⟩ : ∃ L, innerL off hei pan top bot opn cl ch 9 = L := ⟨_, rfl⟩
  have HL := Lib.hid hL
  have G := Lib.hid (good_of E1.out)
  have hoff : inB 0 5 [off] = true := by rw [inB_one]; exact LG.out
  obtain ⟨f0, f1⟩ := in_one hoff
  have HO := Lib.hid hoff
  obtain ⟨cc0, cc1, cc2, cc3⟩ := okSpan_four SP.out
  have hle : cl ≤ ch := by
    have h := SP.out
    simp only [okSpan, Bool.and_eq_true, decide_eq_true_eq] at h
    exact h.2
  clear hL hoff HE
  go_wp2_with (first
    | (go_at_call 23; refine (inner_ok9 tab hei slo pan top bot a3 a7 a11 c3 c7 c11 opn off cl ch G.out HO.out SP.out L HL.out _ r3 r7 r11).mono ?_; rintro e w4 ⟨lb, lf, lc, rfl, g4, rl⟩; replace gU := gU.tr g4; replace h1 := h1.keep g4; replace h2 := h2.keep g4; replace ho := ho.keep g4; replace r3 := r3.grow g4; replace r7 := r7.grow g4; replace r11 := r11.grow g4; clear g4 b0 b1 b2 b3 b4 b5 b6 u0 u1 o0 o1 o2 o3 o4 o5 o6; obtain ⟨b0, b1, b2, b3, b4, b5, b6⟩ := h1.c7; obtain ⟨u0, u1⟩ := h2.c2; obtain ⟨o0, o1, o2, o3, o4, o5, o6⟩ := ho.c7)
    | (go_at_call 20; refine (same02_eq tab hei slo pan top bot pa ta ba pc tc bc opn a3 a7 a11 c3 c7 c11 _ (HP.out.grow gU) (HT.out.grow gU) (HB.out.grow gU) r3 r7 r11).mono ?_; rintro e w5 ⟨rfl, g5⟩; replace gU := gU.tr g5; replace h1 := h1.keep g5; replace h2 := h2.keep g5; replace ho := ho.keep g5; replace r3 := r3.grow g5; replace r7 := r7.grow g5; replace r11 := r11.grow g5; replace rl := rl.grow g5; clear g5 b0 b1 b2 b3 b4 b5 b6 u0 u1 o0 o1 o2 o3 o4 o5 o6; obtain ⟨b0, b1, b2, b3, b4, b5, b6⟩ := h1.c7; obtain ⟨u0, u1⟩ := h2.c2; obtain ⟨o0, o1, o2, o3, o4, o5, o6⟩ := ho.c7)
    | (go_at_call 21; refine (refCheck_eq tab hei slo pan top bot pa ta ba pc tc bc opn _ E1.out _ (HP.out.grow gU) (HT.out.grow gU) (HB.out.grow gU)).mono ?_; rintro e w7 ⟨rfl, g7⟩; replace gU := gU.tr g7; replace h1 := h1.keep g7; replace h2 := h2.keep g7; replace ho := ho.keep g7; replace r3 := r3.grow g7; replace r7 := r7.grow g7; replace r11 := r11.grow g7; replace rl := rl.grow g7; clear g7 b0 b1 b2 b3 b4 b5 b6 u0 u1 o0 o1 o2 o3 o4 o5 o6; obtain ⟨b0, b1, b2, b3, b4, b5, b6⟩ := h1.c7; obtain ⟨u0, u1⟩ := h2.c2; obtain ⟨o0, o1, o2, o3, o4, o5, o6⟩ := ho.c7)
    | (go_at_call 24; refine (refSpan02_any cl ch 1 10000 _ SP.out _).mono ?_; rintro e w8 ⟨rfl, g8⟩; replace gU := gU.tr g8; replace h1 := h1.keep g8; replace h2 := h2.keep g8; replace ho := ho.keep g8; replace r3 := r3.grow g8; replace r7 := r7.grow g8; replace r11 := r11.grow g8; replace rl := rl.grow g8; clear g8 b0 b1 b2 b3 b4 b5 b6 u0 u1 o0 o1 o2 o3 o4 o5 o6; obtain ⟨b0, b1, b2, b3, b4, b5, b6⟩ := h1.c7; obtain ⟨u0, u1⟩ := h2.c2; obtain ⟨o0, o1, o2, o3, o4, o5, o6⟩ := ho.c7)
    | (go_at_call 25; refine (refIn02_any off 0 5 _ LG.out _).mono ?_; rintro e w9 ⟨rfl, g9⟩; replace gU := gU.tr g9; replace h1 := h1.keep g9; replace h2 := h2.keep g9; replace ho := ho.keep g9; replace r3 := r3.grow g9; replace r7 := r7.grow g9; replace r11 := r11.grow g9; replace rl := rl.grow g9; clear g9 b0 b1 b2 b3 b4 b5 b6 u0 u1 o0 o1 o2 o3 o4 o5 o6; obtain ⟨b0, b1, b2, b3, b4, b5, b6⟩ := h1.c7; obtain ⟨u0, u1⟩ := h2.c2; obtain ⟨o0, o1, o2, o3, o4, o5, o6⟩ := ho.c7))
  refine wp_abs (fun Z => Gr w9 Z) (Below.refl _ _) ?_
  rintro wk gK
  replace gU := gU.tr gK
  replace h1 := h1.keep gK
  replace h2 := h2.keep gK
  replace ho := ho.keep gK
  replace r3 := r3.grow gK
  replace r7 := r7.grow gK
  replace r11 := r11.grow gK
  replace rl := rl.grow gK
  clear gK b0 b1 b2 b3 b4 b5 b6 u0 u1 o0 o1 o2 o3 o4 o5 o6
  obtain ⟨b0, b1, b2, b3, b4, b5, b6⟩ := h1.c7
  obtain ⟨u0, u1⟩ := h2.c2
  obtain ⟨o0, o1, o2, o3, o4, o5, o6⟩ := ho.c7
  go_loopw [11] (fun x wr => Hid (∃ m : Nat, m ≤ 9 ∧ x = .int .i64 m ∧ Gr wk wr)) (fun x wr => 9 - (intOf x).toNat)
  case atStart => exact Lib.hid ⟨0, by omega, rfl, Below.refl _ _⟩
  case round =>
    obtain ⟨m, hm, rfl, gL⟩ := hrel.out
    clear hrel
    refine wp_abs (fun Z => Gr wk Z) gL ?_
    clear gL
    rintro wz gL
    have gR := gL
    replace gU := gU.tr gR
    replace h1 := h1.keep gR
    replace h2 := h2.keep gR
    replace ho := ho.keep gR
    replace r3 := r3.grow gR
    replace r7 := r7.grow gR
    replace r11 := r11.grow gR
    replace rl := rl.grow gR
    clear gR b0 b1 b2 b3 b4 b5 b6 u0 u1 o0 o1 o2 o3 o4 o5 o6
    obtain ⟨b0, b1, b2, b3, b4, b5, b6⟩ := h1.c7
    obtain ⟨u0, u1⟩ := h2.c2
    obtain ⟨o0, o1, o2, o3, o4, o5, o6⟩ := ho.c7
    by_cases hlt : m < 9
    case neg =>
      obtain rfl : m = 9 := by omega
      go_wp2_with (first | (go_at_call 15; refine (known_any _).mono ?_; rintro e w10 ⟨rfl, g10⟩))
      go_ret
      exact ⟨rfl, gU.tr g10⟩
    have WA := Lib.hid (fun (c sl sh : Int) (k0 : 0 ≤ c) (k1 : c ≤ 10000) (W' : World) (g : Gr w W') => widened_any tab hei slo pan top bot pa ta ba pc tc bc opn G.out off c sl sh f0 f1 k0 k1 m hlt W' (HP.out.grow g) (HT.out.grow g) (HB.out.grow g))
    have HLA := Lib.hid (show L[m]? = some (innerAt off hei pan top bot opn cl ch m) by rw [← HL.out]; exact inner_get hlt)
    obtain ⟨i0, i1, i2, i3⟩ := inner_bdO (cl := cl) (ch := ch) G.out f0 f1 cc0 cc1 cc2 cc3 hlt
    obtain ⟨bl, bh⟩ := inner_both hle m i0 i1 i2 i3
    obtain ⟨x1, hx1⟩ : ∃ z, min 1099511627776 (innerAt off hei pan top bot opn cl cl m).lo = z := ⟨_, rfl⟩
    obtain ⟨x2, hx2⟩ : ∃ z, max (-1099511627776) (innerAt off hei pan top bot opn cl cl m).hi = z := ⟨_, rfl⟩
    obtain ⟨y1, hy1⟩ : ∃ z, (innerAt off hei pan top bot opn cl ch m).lo = z := ⟨_, rfl⟩
    obtain ⟨y2, hy2⟩ : ∃ z, (innerAt off hei pan top bot opn cl ch m).hi = z := ⟨_, rfl⟩
    have w1' := fun (W' : World) (g : Gr w W') => WA.out cl 1099511627776 (-1099511627776) cc0 cc1 W' g
    have w2' := fun (W' : World) (g : Gr w W') => WA.out ch x1 x2 cc2 cc3 W' g
    rw [hx1, hx2] at w1'
    rw [hx1, hy1] at bl
    rw [hx2, hy2] at bh
    rw [bl, bh] at w2'
    have W1 := Lib.hid w1'
    have W2 := Lib.hid w2'
    have HY := Lib.hid (show L[m]? = some ⟨y1, y2⟩ by rw [HLA.out, ← hy1, ← hy2])
    clear w1' w2' hx1 hx2 hy1 hy2 bl bh i0 i1 i2 i3 WA HLA
    go_upto_region 20 with (go_at_call 26; refine (span02_any 1099511627776 (-1099511627776) _).mono ?_; rintro e w11 ⟨rfl, g11⟩)
    obtain ⟨D, hD⟩ : ∃ D, D = w11.heap.size := ⟨_, rfl⟩
    have oS := Own.new w11 [.int .i64 1099511627776, .int .i64 (-1099511627776)] 37 D hD
    rw [← hD]
    refine wp_abs (fun X => Gr wz X ∧ Own X D [.int .i64 1099511627776, .int .i64 (-1099511627776)]) ⟨g11.tr (Gr.al _ _), oS⟩ ?_
    have lD : wz.heap.size ≤ D := by rw [hD]; exact g11.size
    clear oS hD g11
    rintro X ⟨gX, oS⟩
    go_wp2
    go_loopw [13] (fun x wr => Hid (∃ lo hi : Int, Gr wz wr ∧ Own wr D [.int .i64 lo, .int .i64 hi] ∧ ((x = .int .i64 0 ∧ lo = 1099511627776 ∧ hi = -1099511627776) ∨ (x = .int .i64 1 ∧ lo = x1 ∧ hi = x2) ∨ (x = .int .i64 2 ∧ lo = y1 ∧ hi = y2)))) (fun x wr => 2 - (intOf x).toNat)
    case atStart => exact Lib.hid ⟨_, _, gX, oS, .inl ⟨rfl, rfl, rfl⟩⟩
    case round =>
      obtain ⟨lo, hi9, gV, oV, hx⟩ := hrel.out
      clear hrel gX oS
      refine wp_abs (fun Z => Gr wz Z ∧ Own Z D [.int .i64 lo, .int .i64 hi9]) ⟨gV, oV⟩ ?_
      clear gV oV
      rintro wi ⟨gV, oV⟩
      have gR := gV
      replace gU := gU.tr gR
      replace h1 := h1.keep gR
      replace h2 := h2.keep gR
      replace ho := ho.keep gR
      replace r3 := r3.grow gR
      replace r7 := r7.grow gR
      replace r11 := r11.grow gR
      replace rl := rl.grow gR
      clear gR b0 b1 b2 b3 b4 b5 b6 u0 u1 o0 o1 o2 o3 o4 o5 o6
      obtain ⟨b0, b1, b2, b3, b4, b5, b6⟩ := h1.c7
      obtain ⟨u0, u1⟩ := h2.c2
      obtain ⟨o0, o1, o2, o3, o4, o5, o6⟩ := ho.c7
      obtain ⟨s0, s1⟩ := oV.1.c2
      rcases hx with ⟨rfl, rfl, rfl⟩ | ⟨rfl, rfl, rfl⟩ | ⟨rfl, rfl, rfl⟩
      · go_upto_region 23 with fail
        have f0_ := From.keep b0
        have f1_ := From.keep b1
        have f2_ := From.keep b2
        have f3_ := From.keep b3
        have f4_ := From.keep b4
        have f5_ := From.keep b5
        have f6_ := From.keep b6
        have f7_ := From.keep u0
        have f8_ := From.keep u1
        have f9_ := From.keep s0
        have f10_ := From.keep s1
        refine wp_region_ord (fun w' => ∃ u : From wi, w' = u.val) 12 ((List.range' 0 11).map (fun i => (i, true)) ++ [(11, false)]) (by kernel_rfl) (by kernel_rfl) ⟨⟨_, Gr.dr wi⟩, rfl⟩ ?_
        refine ord_seg 0 11 (by kernel_rfl) (fun d _ _ _ _ h => by cases d <;> exact h) ?_
        simp only [List.drop_zero, List.take_succ_cons, List.take_zero]
        repeat (go_big_quiet_step (fail))
        refine wpQuiet_nil ?_
        refine wpOp_step rfl (fun K' hK => ?_)
        go_simp
        refine (W1.out _ (gU.tr (Gr.dr _))).mono ?_
        rintro e w12 ⟨rfl, g12⟩
        refine hK _ _ ⟨⟨⟨_, (Gr.dr wi).tr g12⟩, rfl⟩, ?_⟩
        clear hK f0_ f1_ f2_ f3_ f4_ f5_ f6_ f7_ f8_ f9_ f10_
        simp only [wpOrd, Act.put, List.setIfInBounds_toArray]
        replace gV := gV.tr ((Gr.dr wi).tr g12)
        replace oV := oV.keep ((Gr.dr wi).tr g12)
        clear s0 s1
        obtain ⟨s0, s1⟩ := oV.1.c2
        have z0 := oV.2 0
        have z1 := oV.2 1
        go_wp2
        go_roundw
        case rel => exact Lib.hid ⟨_, _, (gV.setCell (p := ⟨D, 0, none⟩) lD _).setCell (p := ⟨D, 1, none⟩) lD _, (oV.set (i := 0) (by simp)).set (i := 1) (by simp), .inr (.inl ⟨rfl, rfl, rfl⟩)⟩
        case measure => simp [intOf]
      · go_upto_region 23 with fail
        have f0_ := From.keep b0
        have f1_ := From.keep b1
        have f2_ := From.keep b2
        have f3_ := From.keep b3
        have f4_ := From.keep b4
        have f5_ := From.keep b5
        have f6_ := From.keep b6
        have f7_ := From.keep u0
        have f8_ := From.keep u1
        have f9_ := From.keep s0
        have f10_ := From.keep s1
        refine wp_region_ord (fun w' => ∃ u : From wi, w' = u.val) 12 ((List.range' 0 11).map (fun i => (i, true)) ++ [(11, false)]) (by kernel_rfl) (by kernel_rfl) ⟨⟨_, Gr.dr wi⟩, rfl⟩ ?_
        refine ord_seg 0 11 (by kernel_rfl) (fun d _ _ _ _ h => by cases d <;> exact h) ?_
        simp only [List.drop_zero, List.take_succ_cons, List.take_zero]
        repeat (go_big_quiet_step (fail))
        refine wpQuiet_nil ?_
        refine wpOp_step rfl (fun K' hK => ?_)
        go_simp
        refine (W2.out _ (gU.tr (Gr.dr _))).mono ?_
        rintro e w12 ⟨rfl, g12⟩
        refine hK _ _ ⟨⟨⟨_, (Gr.dr wi).tr g12⟩, rfl⟩, ?_⟩
        clear hK f0_ f1_ f2_ f3_ f4_ f5_ f6_ f7_ f8_ f9_ f10_
        simp only [wpOrd, Act.put, List.setIfInBounds_toArray]
        replace gV := gV.tr ((Gr.dr wi).tr g12)
        replace oV := oV.keep ((Gr.dr wi).tr g12)
        clear s0 s1
        obtain ⟨s0, s1⟩ := oV.1.c2
        have z0 := oV.2 0
        have z1 := oV.2 1
        go_wp2
        go_roundw
        case rel => exact Lib.hid ⟨_, _, (gV.setCell (p := ⟨D, 0, none⟩) lD _).setCell (p := ⟨D, 1, none⟩) lD _, (oV.set (i := 0) (by simp)).set (i := 1) (by simp), .inr (.inr ⟨rfl, rfl, rfl⟩)⟩
        case measure => simp [intOf]
      · obtain ⟨_, _, hla, _, l0, l1⟩ := SRow.get rl HY.out
        cases hla
        dsimp only at l0 l1
        go_upto_region 24 with fail
        go_quiet (fail)
        go_wp2
        go_roundw
        case rel => exact Lib.hid ⟨m + 1, by omega, by go_num, (gL.tr gV).drewN _⟩
        case measure => simp [intOf]; omega

end Go.Proofs.Ytafkoococfnakaa

namespace Go.Proofs.Ytafkoococfnakaa
set_option linter.unusedVariables false
set_option linter.unusedSimpArgs false
open Go.RowKit Go.ChangeShapes

section
variable {H : Type} {enc : TypeId × Value → H} {P : Program} {W W' : World}

theorem trodAll_stays (hl : laidOutB P = true) (g : Gr W W') {sp : Nat → Bool} : ∀ (ts : List TypeId) (vs : List Value) (ds : List (DataW H)) (ps : List MemPlace), (∀ t ∈ ts, P.readableRec t = true ∧ t < P.types.size) →
    DataW.TrodAll enc P W 0 (fun _ => true) true ts vs ds ps → (∀ p ∈ ps, p.block < W.heap.size) → (∀ p ∈ ps, sp p.block = true) → DataW.TrodAll enc P W' 0 sp true ts vs ds ps
  | [], [], [], _, _, h, _, _ => h
  | t :: ts, v :: vs, d :: ds, ps, ht, h, hlt, hsp => by
    obtain ⟨p, q, h1, h2, rfl⟩ := h
    exact ⟨p, q, WideElems.Trod_stays hl (ht t (by simp)).1 (ht t (by simp)).2 h1 (fun x hx => g.same (hlt x (by simp [hx]))) (fun x hx => hsp x (by simp [hx])),
      trodAll_stays hl g ts vs ds q (fun u hu => ht u (by simp [hu])) h2 (fun x hx => hlt x (by simp [hx])) (fun x hx => hsp x (by simp [hx])), rfl⟩

/-- A law that returned true in a world that only grew, its arguments as they were. -/
theorem law_true {f : Func} {s : ChangeSpec} {bt : TypeId} {args : Array Value} {ds : List (DataW H)} {p : List MemPlace}
    (hl : laidOutB P = true) (hpt : ∀ t ∈ f.params.toList, P.readableRec t = true ∧ t < P.types.size) (hbt : P.underlying bt = some .bool) (hrt : f.resultTypes = #[bt]) (hsv : s.vars = [])
    (hs : s.fn H ds = { results := [.lit (.bool true)], args := ds })
    (hW : DataW.Whole enc P f.params.toList s.vars false W args.toList ds [] p) (g : Gr W W') :
    s.post enc P f false true false false W args (.bool true) W' := by
  have hW0 := hW
  obtain ⟨pa, pv, hA, hV, hp, hfz, hnd⟩ := hW0
  rw [hsv] at hV
  have hpv : pv = [] := hV
  subst hpv
  rw [List.append_nil] at hp
  subst hp
  have hold : ∀ x ∈ p, x.block < W.heap.size := fun x hx => hW.lt x hx
  have hargs : ∀ sp : Nat → Bool, (∀ x ∈ p, sp x.block = true) → DataW.TrodAll enc P W' 0 sp true f.params.toList args.toList ds p := fun sp hsp => trodAll_stays hl g _ _ _ _ hpt hA hold hsp
  have hres : ∀ (b : Nat) (sp : Nat → Bool) (hd : Bool), DataW.TrodAll enc P W' b sp hd f.resultTypes.toList ((Value.bool true).resultList f.resultTypes.size) [.lit (.bool true)] [] := fun b sp hd => by
    rw [hrt]
    exact trodAll_cons_mk (shut_bool hbt _) trodAll_mk0
  have hok : ∀ (j : Nat) (t : TypeId) (r : Value), f.resultTypes[j]? = some t → ((Value.bool true).resultList f.resultTypes.size)[j]? = some r → Value.okWide P W' .any 0 t r := ok_one hrt rfl (okWide_bool_mk hbt _)
  have es : s.fn H (ds ++ []) = { results := [.lit (.bool true)], args := ds } := by rw [List.append_nil]; exact hs
  have hsp0 : ∀ x ∈ p, (fun b => decide (b < W.heap.size)) x.block = true := fun x hx => by simpa using hold x hx
  refine ⟨ds, [], p, [], p, [], hW, ?_, ?_, ?_, World.keptBut_mono (fun x hx => hx.elim) (g.frame (fun _ => False)), fun _ => ?_⟩
  · rw [es]; exact hres _ _ _
  · rw [es]; exact hargs _ hsp0
  · rw [es, hsv]; rfl
  · refine ⟨hok, [.lit (.bool true)] ++ ds, [], ([] ++ p) ++ [], ⟨[] ++ p, [], trodAll_append (hargs (fun _ => true) (fun _ _ => rfl)) (hres _ _ _), ?_, rfl, ?_, ?_⟩, ?_⟩
    · rw [hsv]; rfl
    · intro b off hx
      have hx' : MemPlace.cell b off ∈ p := by simpa using hx
      have hb : b < W.heap.size := hold _ hx'
      rw [g.frozen (p := ⟨b, off, none⟩) hb]
      exact hfz b off hx'
    · intro ha
      cases ha
    · intro x hx _
      simpa using hx

/-- Made of integers of kind k alone, cell by cell: by looking. -/
def allK (P : Program) (k : IntKind) : Nat → TypeId → Bool
  | 0, _ => false
  | f + 1, t => match P.underlying t with
    | some (.int k') => decide (k' = k) && decide (P.cellsOf t = 1)
    | some (.struct fs) => fs.toList.all (fun x => allK P k f x.type) && (List.range (P.cellsOf t)).all fun i => fs.toList.any fun x => decide (x.offset ≤ i) && decide (i < x.offset + P.cellsOf x.type)
    | some (.array n e) => allK P k f e && (List.range (P.cellsOf t)).all fun i => (List.range n).any fun j => decide (j * P.cellsOf e ≤ i) && decide (i < j * P.cellsOf e + P.cellsOf e)
    | _ => false

theorem piece {cs : List Value} {o n i : Nat} (h1 : o ≤ i) (h2 : i < o + n) : ((cs.drop o).take n)[i - o]? = cs[i]? := by
  rw [List.getElem?_take_of_lt (by omega), List.getElem?_drop, show o + (i - o) = i by omega]

theorem mapM_at {α β : Type} {f : α → Option β} : ∀ (l : List α) (ys : List β), l.mapM f = some ys → ∀ a ∈ l, ∃ y, f a = some y
  | [], _, _, a, ha => by cases ha
  | b :: l, ys, h, a, ha => by
    rw [List.mapM_cons] at h
    cases h1 : f b with
    | none => simp [h1] at h
    | some y =>
      cases h2 : l.mapM f with
      | none => simp [h1, h2] at h
      | some zs =>
        rcases List.mem_cons.1 ha with rfl | ha
        · exact ⟨y, h1⟩
        · exact mapM_at l zs h2 a ha

theorem int_open {k : IntKind} {base : Nat} {sp : Nat → Bool} {held : Bool} {t : TypeId} (hu : P.underlying t = some (.int k)) {fuel : Nat} {cs : List Value} {x : DataW H × List MemPlace} (hx : DataW.trod enc P W base sp held fuel t cs = some x) :
    ∃ n, cs = [.int k n] ∧ (Lit.int k n).wf = true := by
  obtain ⟨n, e, _, hw⟩ := DataW.trod_int hu hx
  exact ⟨n, e, hw⟩

theorem allK_open {k : IntKind} {base : Nat} {sp : Nat → Bool} {held : Bool} : ∀ (f : Nat) (t : TypeId), allK P k f t = true → ∀ (fuel : Nat) (cs : List Value) (x : DataW H × List MemPlace), DataW.trod enc P W base sp held fuel t cs = some x →
    cs.length = P.cellsOf t ∧ ∀ i, i < cs.length → ∃ n, cs[i]? = some (.int k n) ∧ (Lit.int k n).wf = true
  | 0, _, h, _, _, _, _ => by simp [allK] at h
  | f + 1, t, h, 0, cs, x, hx => by simp [DataW.trod] at hx
  | f + 1, t, h, fuel + 1, cs, x, hx => by
    unfold allK at h
    split at h
    · rename_i k' hu
      simp only [Bool.and_eq_true, decide_eq_true_eq] at h
      obtain ⟨rfl, hc⟩ := h
      obtain ⟨n, rfl, hw⟩ := int_open hu hx
      refine ⟨by rw [hc]; rfl, fun i hi => ?_⟩
      obtain rfl : i = 0 := by simpa using hi
      exact ⟨n, rfl, hw⟩
    · rename_i fs hu
      simp only [Bool.and_eq_true] at h
      obtain ⟨ha, hcov⟩ := h
      unfold DataW.trod at hx
      rw [hu] at hx
      simp only at hx
      split at hx
      case isFalse => cases hx
      rename_i hl
      refine ⟨hl, fun i hi => ?_⟩
      obtain ⟨xs, hxs, _⟩ := Option.map_eq_some_iff.1 hx
      have hci := List.all_eq_true.1 hcov i (by simp; omega)
      obtain ⟨fd, hfd, hin⟩ := List.any_eq_true.1 hci
      simp only [Bool.and_eq_true, decide_eq_true_eq] at hin
      obtain ⟨y, hy⟩ := mapM_at _ _ hxs fd hfd
      obtain ⟨hl', hat⟩ := allK_open f fd.type (List.all_eq_true.1 ha fd hfd) fuel _ y hy
      obtain ⟨n, hn, hw⟩ := hat (i - fd.offset) (by rw [hl']; omega)
      rw [piece hin.1 hin.2] at hn
      exact ⟨n, hn, hw⟩
    · rename_i m e hu
      simp only [Bool.and_eq_true] at h
      obtain ⟨ha, hcov⟩ := h
      unfold DataW.trod at hx
      rw [hu] at hx
      simp only at hx
      split at hx
      case isFalse => cases hx
      rename_i hl
      refine ⟨hl, fun i hi => ?_⟩
      obtain ⟨xs, hxs, _⟩ := Option.map_eq_some_iff.1 hx
      have hci := List.all_eq_true.1 hcov i (by simp; omega)
      obtain ⟨j, hj, hin⟩ := List.any_eq_true.1 hci
      simp only [Bool.and_eq_true, decide_eq_true_eq] at hin
      obtain ⟨y, hy⟩ := mapM_at _ _ hxs j hj
      obtain ⟨hl', hat⟩ := allK_open f e ha fuel _ y hy
      obtain ⟨n, hn, hw⟩ := hat (i - j * P.cellsOf e) (by rw [hl']; omega)
      rw [piece hin.1 hin.2] at hn
      exact ⟨n, hn, hw⟩
    · cases h

theorem ints_of {k : IntKind} : ∀ (cs : List Value), (∀ i, i < cs.length → ∃ n, cs[i]? = some (.int k n) ∧ (Lit.int k n).wf = true) → ∃ l : List Int, cs = l.map (Value.int k) ∧ ∀ n ∈ l, (Lit.int k n).wf = true
  | [], _ => ⟨[], rfl, by simp⟩
  | c :: cs, h => by
    obtain ⟨n, hn, hw⟩ := h 0 (by simp)
    obtain ⟨l, rfl, hl⟩ := ints_of cs (fun i hi => by simpa using h (i + 1) (by simpa using hi))
    simp only [List.getElem?_cons_zero, Option.some.injEq] at hn
    subst hn
    refine ⟨n :: l, rfl, fun m hm => ?_⟩
    rcases List.mem_cons.1 hm with rfl | hm
    · exact hw
    · exact hl m hm

/-- A struct or array by value, of integers of one kind: its integers. -/
theorem agg_ints {k : IntKind} {base : Nat} {sp : Nat → Bool} {held : Bool} {f : Nat} {t : TypeId} (ha : allK P k f t = true) (hc : P.cellsOf t ≠ 1) {v : Value} {d : DataW H} {ps : List MemPlace} (h : DataW.Trod enc P W base sp held t v d ps) :
    ∃ l : List Int, v = .agg (l.map (Value.int k)).toArray ∧ l.length = P.cellsOf t ∧ ∀ n ∈ l, (Lit.int k n).wf = true := by
  obtain ⟨fuel, hf⟩ := h
  obtain ⟨hl, hat⟩ := allK_open f t ha fuel _ _ hf
  obtain ⟨l, hcs, hw⟩ := ints_of _ hat
  have hlen : l.length = P.cellsOf t := by rw [← hl, hcs]; simp
  refine ⟨l, ?_, hlen, hw⟩
  unfold Value.cells at hcs hl
  split at hcs
  · rename_i cs
    rw [← hcs]
  · rename_i hna
    exfalso
    apply hc
    rw [← hlen]
    have := congrArg List.length hcs
    simpa using this.symm

/-- A slice of bytes that came in. -/
theorem row_bytes {e : TypeId} {t : TypeId} {r : Reach} {b0 : Nat} (ht : P.underlying t = some (.slice e)) (he : P.underlying e = some (.int .u8)) (hc : P.cellsOf e = 1) {v : Value} {d : DataW H} {ps : List MemPlace} (hval : Value.okWide P W r b0 t v)
    (h : DataW.Trod enc P W 0 (fun _ => true) true t v d ps) :
    ∃ (a : Option Addr) (l : List Int) (cap : Nat), v = .slice a l.length cap ∧ URow W a l ∧ Bytes l := by
  obtain ⟨fuel, hf⟩ := h
  obtain ⟨a0, len0, cap0, rfl⟩ := Go.WideShapes.okWide_slice ht hval
  rcases open_ints ht he hc hf with ⟨hcs, _⟩ | ⟨a, len, cap, zs, hcs, _, hle, hmax, hlen, _, hcell, hwf⟩
  · have hcs' : [Value.slice a0 len0 cap0] = [.slice none 0 0] := by simpa [Value.cells] using hcs
    cases hcs'
    exact ⟨none, [], 0, rfl, RowOf.nil, fun x hx => by cases hx⟩
  · have hcs' : [Value.slice a0 len0 cap0] = [.slice (some a) len cap] := by simpa [Value.cells] using hcs
    cases hcs'
    simp only [if_true] at hlen
    have hl : (zs.take len0).length = len0 := by simp; omega
    refine ⟨some a, zs.take len0, cap0, by rw [hl], ⟨by rw [hl]; exact Nat.le_trans hle hmax, fun j x hx => ?_⟩, fun x hx => bounds_u8 (hwf x (List.mem_of_mem_take hx))⟩
    have hj : j < len0 := by
      have := (List.getElem?_eq_some_iff.1 hx).1
      omega
    have hz : zs[j]? = some x := by
      rw [List.getElem?_take_of_lt hj] at hx
      exact hx
    have h0 := hcell 0 (by omega)
    rw [show a.add 0 = a by simp [Addr.add]] at h0
    have hb := World.block_lt_of_cell? W _ h0
    have hs : a.spot = none := by
      cases hsp : a.spot with
      | none => rfl
      | some q =>
        exfalso
        unfold World.cell? at h0
        split at h0
        · simp [hsp] at h0
        · cases h0
    obtain ⟨b, off, sp⟩ := a
    simp only at hs
    subst hs
    have h1 := hcell j (by omega)
    have e1 : zs.getD j 0 = x := by simp [hz]
    rw [e1, show (Addr.mk b off none).add j = ⟨b, off + j, none⟩ by unfold Addr.add; split <;> simp_all] at h1
    refine ⟨b, off, rfl, hb, fun i v hv => ?_⟩
    have hi : i = 0 := by
      have := (List.getElem?_eq_some_iff.1 hv).1
      simpa [encU] using this
    subst hi
    simp [encU] at hv
    subst hv
    simpa using h1

end

end Go.Proofs.Ytafkoococfnakaa

namespace Go.Proofs.Ytafkoococfnakaa
set_option linter.unusedVariables false
set_option linter.unusedSimpArgs false
open Go.RowKit Go.ChangeShapes

theorem list_of {α : Type} (p : Nat → α → Prop) : ∀ n, (∀ j, j < n → ∃ x, p j x) → ∃ l : List α, l.length = n ∧ ∀ j x, l[j]? = some x → p j x
  | 0, _ => ⟨[], rfl, fun j x h => by simp at h⟩
  | n + 1, h => by
    obtain ⟨l, hl, hp⟩ := list_of p n (fun j hj => h j (by omega))
    obtain ⟨x, hx⟩ := h n (by omega)
    refine ⟨l ++ [x], by simp [hl], fun j y hy => ?_⟩
    by_cases hj : j < l.length
    · rw [List.getElem?_append_left hj] at hy
      exact hp j y hy
    · rw [List.getElem?_append_right (by omega)] at hy
      have h1 := (List.getElem?_eq_some_iff.1 hy).1
      simp at h1
      obtain rfl : j = n := by omega
      simp [hl] at hy
      subst hy
      exact hx

section
variable {H : Type} {enc : TypeId × Value → H} {P : Program} {W : World}

/-- A slice of arrays of integers of one kind. -/
theorem row_flat {α : Type} {en : α → List Value} {G : α → Prop} {e t : TypeId} {k : IntKind} {f sz fuel : Nat} {cs : List Value} {x : DataW H × List MemPlace} (ht : P.underlying t = some (.slice e)) (ha : allK P k f e = true) (hc : P.cellsOf e = sz) (h0 : 0 < sz)
    (hmk : ∀ l : List Int, l.length = sz → (∀ n ∈ l, (Lit.int k n).wf = true) → ∃ y : α, en y = l.map (Value.int k) ∧ G y)
    (hx : DataW.trod enc P W 0 (fun _ => true) true fuel t cs = some x) :
    ∃ (a : Option Addr) (l : List α) (cap : Nat), cs = [.slice a l.length cap] ∧ RowOf sz en W a l ∧ ∀ v ∈ l, G v := by
  rcases DataW.trod_slice ht hx with ⟨h, _⟩ | ⟨a, len, cap, elems, rest, n, _, rfl, _, hb, hl, hm, hlen, hel, _, _⟩
  · exact ⟨none, [], 0, h, RowOf.nil, fun v hv => by cases hv⟩
  have hj : ∀ j, j < len → ∃ y : α, G y ∧ ∃ l : List Int, l.length = sz ∧ en y = l.map (Value.int k) ∧ ∀ i, i < sz → W.cell? ((a.add (j * sz)).add i) = (l.map (Value.int k))[i]? := by
    intro j hj
    have h1 := hel j hj
    rw [List.getElem?_eq_getElem (by omega)] at h1
    obtain ⟨cs', hcs, hy⟩ := Option.bind_eq_some_iff.1 h1
    obtain ⟨hl', hat⟩ := allK_open f e ha _ _ _ hy
    obtain ⟨l, hcl, hw⟩ := ints_of _ hat
    have hll : l.length = sz := by rw [← hc, ← hl', hcl]; simp
    obtain ⟨y, hy1, hy2⟩ := hmk l hll hw
    refine ⟨y, hy2, l, hll, hy1, fun i hi => ?_⟩
    have := (World.cells?_some hcs).2.2 i (by omega)
    rw [hc, hcl] at this
    exact this
  obtain ⟨l, hlen', hp⟩ := list_of _ len hj
  refine ⟨some a, l, cap, by rw [hlen'], ⟨?_, fun j y hy => ?_⟩, fun v hv => ?_⟩
  · rw [hlen']
    have : maxLen ≤ 9223372036854775807 := by decide
    omega
  · obtain ⟨_, li, hli, hen, hcell⟩ := hp j y hy
    have z0 := hcell 0 h0
    have hi0 : (li.map (Value.int k))[0]? = some (.int k (li[0]'(by omega))) := by simp [List.getElem?_eq_getElem (show 0 < li.length by omega)]
    rw [hi0, show (a.add (j * sz)).add 0 = a.add (j * sz) by simp [Addr.add]] at z0
    have hs : a.spot = none := by
      cases hsp : a.spot with
      | none => rfl
      | some q =>
        exfalso
        have hj0 : j < len := by have := (List.getElem?_eq_some_iff.1 hy).1; omega
        obtain ⟨_, _, li0, hli0, _, hc0⟩ := hj 0 (by omega)
        have z1 := hc0 0 h0
        have hi1 : (li0.map (Value.int k))[0]? = some (.int k (li0[0]'(by omega))) := by simp [List.getElem?_eq_getElem (show 0 < li0.length by omega)]
        rw [hi1, show (a.add (0 * sz)).add 0 = a by simp [Addr.add]] at z1
        unfold World.cell? at z1
        split at z1
        · simp [hsp] at z1
        · cases z1
    obtain ⟨b, off, sp⟩ := a
    simp only at hs
    subst hs
    refine ⟨b, off, rfl, ?_, fun i v hv => ?_⟩
    · have := World.block_lt_of_cell? W _ z0
      rw [WideShapes.add_plain] at this
      exact this
    · have hi : i < sz := by
        have := (List.getElem?_eq_some_iff.1 hv).1
        rw [hen] at this
        simpa [hli] using this
      have := hcell i hi
      rw [WideShapes.add_plain, WideShapes.add_plain, ← hen, hv] at this
      exact this
  · obtain ⟨j, hjv⟩ := List.getElem?_of_mem hv
    exact (hp j v hjv).1

/-- A struct of three slices: each by itself. -/
theorem struct3 {t t0 t1 t2 : TypeId} {fs : Array Field} {fuel : Nat} {cs : List Value} {x : DataW H × List MemPlace} (hu : P.underlying t = some (.struct fs)) (ct : P.cellsOf t = 3) (c0 : P.cellsOf t0 = 1) (c1 : P.cellsOf t1 = 1) (c2 : P.cellsOf t2 = 1)
    (m0 : ∃ g ∈ fs.toList, g.type = t0 ∧ g.offset = 0) (m1 : ∃ g ∈ fs.toList, g.type = t1 ∧ g.offset = 1) (m2 : ∃ g ∈ fs.toList, g.type = t2 ∧ g.offset = 2)
    (hx : DataW.trod enc P W 0 (fun _ => true) true fuel t cs = some x) :
    ∃ s0 s1 s2 n x0 x1 x2, cs = [s0, s1, s2] ∧ DataW.trod enc P W 0 (fun _ => true) true n t0 [s0] = some x0 ∧ DataW.trod enc P W 0 (fun _ => true) true n t1 [s1] = some x1 ∧ DataW.trod enc P W 0 (fun _ => true) true n t2 [s2] = some x2 := by
  cases fuel with
  | zero => simp [DataW.trod] at hx
  | succ n =>
    unfold DataW.trod at hx
    rw [hu] at hx
    simp only at hx
    split at hx
    case isFalse => cases hx
    rename_i hl
    obtain ⟨xs, hxs, _⟩ := Option.map_eq_some_iff.1 hx
    rw [ct] at hl
    obtain ⟨s0, s1, s2, rfl⟩ : ∃ s0 s1 s2, cs = [s0, s1, s2] := by
      match cs, hl with
      | [s0, s1, s2], _ => exact ⟨s0, s1, s2, rfl⟩
    obtain ⟨g0, hg0, e0, o0⟩ := m0
    obtain ⟨g1, hg1, e1, o1⟩ := m1
    obtain ⟨g2, hg2, e2, o2⟩ := m2
    obtain ⟨y0, hy0⟩ := mapM_at _ _ hxs g0 hg0
    obtain ⟨y1, hy1⟩ := mapM_at _ _ hxs g1 hg1
    obtain ⟨y2, hy2⟩ := mapM_at _ _ hxs g2 hg2
    rw [e0, o0, c0] at hy0
    rw [e1, o1, c1] at hy1
    rw [e2, o2, c2] at hy2
    exact ⟨s0, s1, s2, n, y0, y1, y2, rfl, hy0, hy1, hy2⟩

end


/-- The pieces of a struct. -/
theorem struct_piece {H : Type} {enc : TypeId × Value → H} {P : Program} {W : World} {t : TypeId} {fs : Array Field} {fuel : Nat} {cs : List Value} {x : DataW H × List MemPlace} (hu : P.underlying t = some (.struct fs))
    (hx : DataW.trod enc P W 0 (fun _ => true) true fuel t cs = some x) :
    cs.length = P.cellsOf t ∧ ∃ n, ∀ g ∈ fs.toList, ∃ y, DataW.trod enc P W 0 (fun _ => true) true n g.type ((cs.drop g.offset).take (P.cellsOf g.type)) = some y := by
  cases fuel with
  | zero => simp [DataW.trod] at hx
  | succ n =>
    unfold DataW.trod at hx
    rw [hu] at hx
    simp only at hx
    split at hx
    case isFalse => cases hx
    rename_i hl
    obtain ⟨xs, hxs, _⟩ := Option.map_eq_some_iff.1 hx
    exact ⟨hl, n, fun g hg => mapM_at _ _ hxs g hg⟩

end Go.Proofs.Ytafkoococfnakaa

namespace Go.Proofs.Ytafkoococfnakaa
set_option linter.unusedVariables false
set_option linter.unusedSimpArgs false
open Go.RowKit Go.ChangeShapes

theorem mkI64 (l : List Int) (hl : l.length = 1) (hw : ∀ n ∈ l, (Lit.int .i64 n).wf = true) : ∃ y : Int, encI y = l.map (Value.int .i64) ∧ True := by
  match l, hl with
  | [a], _ => exact ⟨a, rfl, trivial⟩

set_option maxRecDepth 100000 in
theorem rowI_open {H : Type} {enc : TypeId × Value → H} {W : World} {fuel : Nat} {cs : List Value} {x : DataW H × List MemPlace} (hx : DataW.trod enc Try.prog W 0 (fun _ => true) true fuel 22 cs = some x) :
    ∃ (a : Option Addr) (l : List Int) (cap : Nat), cs = [.slice a l.length cap] ∧ IRow W a l := by
  obtain ⟨a, l, cap, e, rl, _⟩ := row_flat (f := 5) (en := encI) (G := fun _ => True) Try.underlying22 (k := .i64) (by kernel_rfl) (by kernel_rfl) (by decide) mkI64 hx
  exact ⟨a, l, cap, e, rl⟩

set_option maxRecDepth 100000 in
theorem blank_open {H : Type} {enc : TypeId × Value → H} {W : World} {fuel : Nat} {cs : List Value} {x : DataW H × List MemPlace} (hx : DataW.trod enc Try.prog W 0 (fun _ => true) true fuel 24 cs = some x) :
    ∃ (tab hei slo : Int) (pan top bot : List Int) (pa ta ba : Option Addr) (pc tc bc : Nat) (opn : Bool), cs = [.int .i64 tab, .slice pa pan.length pc, .int .i64 hei, .slice ta top.length tc, .slice ba bot.length bc, .int .i64 slo, .bool opn] ∧ IRow W pa pan ∧ IRow W ta top ∧ IRow W ba bot := by
  obtain ⟨hl, n, hp⟩ := struct_piece Try.underlying24 hx
  rw [show Try.prog.cellsOf 24 = 7 from by kernel_rfl] at hl
  obtain ⟨c0, c1, c2, c3, c4, c5, c6, rfl⟩ : ∃ c0 c1 c2 c3 c4 c5 c6, cs = [c0, c1, c2, c3, c4, c5, c6] := by
    match cs, hl with
    | [c0, c1, c2, c3, c4, c5, c6], _ => exact ⟨c0, c1, c2, c3, c4, c5, c6, rfl⟩
  obtain ⟨y0, h0⟩ := hp _ List.mem_cons_self
  obtain ⟨y1, h1⟩ := hp _ (List.mem_cons_of_mem _ List.mem_cons_self)
  obtain ⟨y2, h2⟩ := hp _ (List.mem_cons_of_mem _ (List.mem_cons_of_mem _ List.mem_cons_self))
  obtain ⟨y3, h3⟩ := hp _ (List.mem_cons_of_mem _ (List.mem_cons_of_mem _ (List.mem_cons_of_mem _ List.mem_cons_self)))
  obtain ⟨y4, h4⟩ := hp _ (List.mem_cons_of_mem _ (List.mem_cons_of_mem _ (List.mem_cons_of_mem _ (List.mem_cons_of_mem _ List.mem_cons_self))))
  obtain ⟨y5, h5⟩ := hp _ (List.mem_cons_of_mem _ (List.mem_cons_of_mem _ (List.mem_cons_of_mem _ (List.mem_cons_of_mem _ (List.mem_cons_of_mem _ List.mem_cons_self)))))
  obtain ⟨y6, h6⟩ := hp _ (List.mem_cons_of_mem _ (List.mem_cons_of_mem _ (List.mem_cons_of_mem _ (List.mem_cons_of_mem _ (List.mem_cons_of_mem _ (List.mem_cons_of_mem _ List.mem_cons_self))))))
  have ei : Try.prog.cellsOf 3 = 1 := by kernel_rfl
  have es : Try.prog.cellsOf 22 = 1 := by kernel_rfl
  have eb : Try.prog.cellsOf 4 = 1 := by kernel_rfl
  have h0' : DataW.trod enc Try.prog W 0 (fun _ => true) true n 3 [c0] = some y0 := by
    simpa only [List.drop_zero, ei, List.take_succ_cons, List.take_zero] using h0
  have h1' : DataW.trod enc Try.prog W 0 (fun _ => true) true n 22 [c1] = some y1 := by
    simpa only [List.drop_succ_cons, List.drop_zero, es, List.take_succ_cons, List.take_zero] using h1
  have h2' : DataW.trod enc Try.prog W 0 (fun _ => true) true n 3 [c2] = some y2 := by
    simpa only [List.drop_succ_cons, List.drop_zero, ei, List.take_succ_cons, List.take_zero] using h2
  have h3' : DataW.trod enc Try.prog W 0 (fun _ => true) true n 22 [c3] = some y3 := by
    simpa only [List.drop_succ_cons, List.drop_zero, es, List.take_succ_cons, List.take_zero] using h3
  have h4' : DataW.trod enc Try.prog W 0 (fun _ => true) true n 22 [c4] = some y4 := by
    simpa only [List.drop_succ_cons, List.drop_zero, es, List.take_succ_cons, List.take_zero] using h4
  have h5' : DataW.trod enc Try.prog W 0 (fun _ => true) true n 3 [c5] = some y5 := by
    simpa only [List.drop_succ_cons, List.drop_zero, ei, List.take_succ_cons, List.take_zero] using h5
  have h6' : DataW.trod enc Try.prog W 0 (fun _ => true) true n 4 [c6] = some y6 := by
    simpa only [List.drop_succ_cons, List.drop_zero, eb, List.take_succ_cons, List.take_zero] using h6
  obtain ⟨tab, e0, _⟩ := int_open Try.underlying3 h0'
  obtain ⟨hei, e2, _⟩ := int_open Try.underlying3 h2'
  obtain ⟨slo, e5, _⟩ := int_open Try.underlying3 h5'
  obtain ⟨opn, e6, _⟩ := DataW.trod_bool Try.underlying4 h6'
  obtain ⟨pa, pan, pc, e1, r1⟩ := rowI_open h1'
  obtain ⟨ta, top, tc, e3, r3⟩ := rowI_open h3'
  obtain ⟨ba, bot, bc, e4, r4⟩ := rowI_open h4'
  cases e0
  cases e1
  cases e2
  cases e3
  cases e4
  cases e5
  cases e6
  exact ⟨tab, hei, slo, pan, top, bot, pa, ta, ba, pc, tc, bc, opn, rfl, r1, r3, r4⟩

end Go.Proofs.Ytafkoococfnakaa
