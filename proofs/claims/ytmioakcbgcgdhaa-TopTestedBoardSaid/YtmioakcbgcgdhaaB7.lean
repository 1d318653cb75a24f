/- Contract of lay: a sheet's parts and what is used of each paper. -/
import Derived.Test.YtmioakcbgcgdhaaQm
import Derived.Deep.RegionWith
namespace Go.Proofs.Ytmioakcbgcgdhaa
set_option linter.unusedVariables false
set_option linter.unusedSimpArgs false
open Go.RowKit

/-- What lay hands back. -/
def LaidPost (ps : List Paper) (fs : List Flute) (mp mf : List Int) (pa fa ma ga : Option Addr) (pc fc mc gc : Nat) (w : World) (e : Ending) (w' : World) : Prop :=
  ∃ b, e = .returned (.agg #[.slice ma mp.length mc, .slice ga mf.length gc, .slice pa ps.length pc, .slice fa fs.length fc, .int .i64 (partsL fs mf), .map (some b)]) ∧ Gr w w' ∧ MapIs w' b 5 (usedL fs mp mf)

set_option maxRecDepth 100000 in
set_option maxHeartbeats 4000000 in
theorem lay_any (ps : List Paper) (fs : List Flute) (mp mf : List Int) (F : Fine ps fs mp mf) (pa fa ma ga : Option Addr) (pc fc mc gc : Nat) (w : World) (hp : PRow w pa ps) (hf : FRow w fa fs) (hm : IRow w ma mp) (hg : IRow w ga mf) :
    Calls Try.prog 36 #[.agg #[.slice pa ps.length pc, .slice fa fs.length fc], .agg #[.slice ma mp.length mc, .slice ga mf.length gc]] w (LaidPost ps fs mp mf pa fa ma ga pc fc mc gc w) := by
  have hl1 := hp.1
  have hl2 := hf.1
  have hl3 := hm.1
  have hl4 := hg.1
  have hf1 := F.f1
  have hf2 := F.f2
  have hmpl := F.mpl
  have HF := Lib.hid F
  have Hmpl := Lib.hid hmpl
  have hmp5 : mp.length ≤ 5 := by omega
  clear hmpl
  -- the blocks
  have g1 := Gr.al w (.cells #[.slice pa ps.length pc, .slice fa fs.length fc] 31)
  have g2 := g1.tr (Gr.al _ (.cells #[.slice ma mp.length mc, .slice ga mf.length gc] 35))
  have g3 := Gr.al ((w.alloc (.cells #[.slice pa ps.length pc, .slice fa fs.length fc] 31)).alloc (.cells #[.slice ma mp.length mc, .slice ga mf.length gc] 35)) (.cells #[.slice none 0 0, .slice none 0 0, .slice none 0 0, .slice none 0 0, .int .i64 0, .map none] 109)
  have o3 := Own.new ((w.alloc (.cells #[.slice pa ps.length pc, .slice fa fs.length fc] 31)).alloc (.cells #[.slice ma mp.length mc, .slice ga mf.length gc] 35)) [.slice none 0 0, .slice none 0 0, .slice none 0 0, .slice none 0 0, .int .i64 0, .map none] 109 (w.heap.size + 1 + 1) (by simp)
  have m4 := MapIs.made (((w.alloc (.cells #[.slice pa ps.length pc, .slice fa fs.length fc] 31)).alloc (.cells #[.slice ma mp.length mc, .slice ga mf.length gc] 35)).alloc (.cells #[.slice none 0 0, .slice none 0 0, .slice none 0 0, .slice none 0 0, .int .i64 0, .map none] 109))
  have g4 := Gr.al (((w.alloc (.cells #[.slice pa ps.length pc, .slice fa fs.length fc] 31)).alloc (.cells #[.slice ma mp.length mc, .slice ga mf.length gc] 35)).alloc (.cells #[.slice none 0 0, .slice none 0 0, .slice none 0 0, .slice none 0 0, .int .i64 0, .map none] 109)) (.map #[] 0)
  have e4 : (((w.alloc (.cells #[.slice pa ps.length pc, .slice fa fs.length fc] 31)).alloc (.cells #[.slice ma mp.length mc, .slice ga mf.length gc] 35)).alloc (.cells #[.slice none 0 0, .slice none 0 0, .slice none 0 0, .slice none 0 0, .int .i64 0, .map none] 109)).heap.size = w.heap.size + 1 + 1 + 1 := by simp
  rw [e4] at m4
  have o5 := Own.new ((((w.alloc (.cells #[.slice pa ps.length pc, .slice fa fs.length fc] 31)).alloc (.cells #[.slice ma mp.length mc, .slice ga mf.length gc] 35)).alloc (.cells #[.slice none 0 0, .slice none 0 0, .slice none 0 0, .slice none 0 0, .int .i64 0, .map none] 109)).alloc (.map #[] 0)) [.slice ma mp.length mc, .slice ga mf.length gc, .slice pa ps.length pc, .slice fa fs.length fc, .int .i64 1, .map (some (w.heap.size + 1 + 1 + 1))] 109 (w.heap.size + 1 + 1 + 1 + 1) (by simp)
  have g5 := Gr.al ((((w.alloc (.cells #[.slice pa ps.length pc, .slice fa fs.length fc] 31)).alloc (.cells #[.slice ma mp.length mc, .slice ga mf.length gc] 35)).alloc (.cells #[.slice none 0 0, .slice none 0 0, .slice none 0 0, .slice none 0 0, .int .i64 0, .map none] 109)).alloc (.map #[] 0)) (.cells #[.slice ma mp.length mc, .slice ga mf.length gc, .slice pa ps.length pc, .slice fa fs.length fc, .int .i64 1, .map (some (w.heap.size + 1 + 1 + 1))] 109)
  have gall := g2.tr (g3.tr (g4.tr g5))
  have o3' := o3.keep (g4.tr g5)
  have m4' := m4.keep g5
  clear g1 g2 g3 g4 g5 e4 o3 m4
  have hmm := @run_makeMap Try.prog
  go_enter Try.func36, Try.ntmps36
  go_wp2
  refine wp_abs (fun W => Gr w W ∧ Own W (w.heap.size + 1 + 1) [.slice none 0 0, .slice none 0 0, .slice none 0 0, .slice none 0 0, .int .i64 0, .map none] ∧ MapIs W (w.heap.size + 1 + 1 + 1) 0 (fun _ => 0) ∧
    Own W (w.heap.size + 1 + 1 + 1 + 1) [.slice ma mp.length mc, .slice ga mf.length gc, .slice pa ps.length pc, .slice fa fs.length fc, .int .i64 1, .map (some (w.heap.size + 1 + 1 + 1))]) ⟨gall, o3', m4', o5⟩ ?_
  clear gall o3' m4' o5
  rintro W ⟨gW, oR, mM, oX⟩
  have HR := Lib.hid (show w.heap.size ≤ w.heap.size + 1 + 1 by omega)
  generalize w.heap.size + 1 + 1 = R at *
  clear hmm
  have hfi := field123_0
  go_loopw [17] (fun i wr => ∃ k : Nat, k ≤ mf.length ∧ i = .int .i64 k ∧ Gr w wr ∧ Own wr R [.slice none 0 0, .slice none 0 0, .slice none 0 0, .slice none 0 0, .int .i64 0, .map none] ∧ MapIs wr (R + 1) 0 (fun _ => 0) ∧
    Own wr (R + 1 + 1) [.slice ma mp.length mc, .slice ga mf.length gc, .slice pa ps.length pc, .slice fa fs.length fc, .int .i64 (partsTo fs mf k), .map (some (R + 1))]) (fun i wr => mf.length - (intOf i).toNat)
  case atStart => exact ⟨0, Nat.zero_le _, rfl, gW, oR, mM, oX⟩
  case round =>
    clear gW oR mM oX
    obtain ⟨k, hk, rfl, gW, oR, mM, oX⟩ := hrel
    by_cases hlt : k < mf.length
    · obtain ⟨n, f, hi, hn, hgf⟩ := HF.out.flu k hlt
      obtain ⟨p1, p2⟩ := partsTo_le HF.out (show k ≤ mf.length by omega)
      obtain ⟨p3, p4⟩ := partsTo_le HF.out (show k + 1 ≤ mf.length by omega)
      have ef := fluteAt_eq hi hn
      have p5 : partsTo fs mf (k + 1) = partsTo fs mf k * f.pitch := by show partsTo fs mf k * (fluteAt fs mf k).pitch = _; rw [ef]
      rw [p5] at p3 p4
      have P5 := Lib.hid p5
      have Hi := Lib.hid hi
      have Hn := Lib.hid hn
      clear p5 ef hi hn hgf
      obtain ⟨q0, q1, q2, q3, q4, q5⟩ := oX.1.c6
      have fz := oX.2
      have z0 := fz 4
      go_wp2
      go_region_with ((go_at_call 75; refine (flute_any _ _ _ _ _ _ _ _ _ _ _ _ _ _ _ k rfl n f Hi.out Hn.out _ (hf.grow (gW.tr (Gr.dr _))) (hg.grow (gW.tr (Gr.dr _)))).mono ?_; rintro e w1 ⟨rfl, hx⟩; have oX1 := oX.keep ((Gr.dr _).tr hx); obtain ⟨r0, r1, r2, r3, r4, r5⟩ := oX1.1.c6; have z1 := oX1.2 4))
      all_goals
        go_wp2
        go_roundw
        case rel =>
          refine ⟨k + 1, by omega, by go_num, (gW.tr ((Gr.dr _).tr hx)).setCell (by have := HR.out; show _ ≤ R + 1 + 1; omega) _, (oR.keep ((Gr.dr _).tr hx)).other (by omega), (mM.keep ((Gr.dr _).tr hx)).other (by omega), ?_⟩
          rw [P5.out]
          exact oX1.set (i := 4) (by simp)
        case measure => simp [intOf]; omega
    · obtain rfl : k = mf.length := by omega
      clear hlt hk
      change Own wr (R + 1 + 1) [_, _, _, _, .int .i64 (partsL fs mf), _] at oX
      obtain ⟨q0, q1, q2, q3, q4, q5⟩ := oX.1.c6
      obtain ⟨p1, p2⟩ := parts_bd HF.out
      go_wp2
      clear q0 q1 q2 q3 q4 q5
      go_loopw [33] (fun i wr => ∃ k : Nat, k ≤ mp.length ∧ i = .int .i64 k ∧ Gr w wr ∧ Own wr R [.slice none 0 0, .slice none 0 0, .slice none 0 0, .slice none 0 0, .int .i64 0, .map none] ∧ MapIs wr (R + 1) k (usedTo fs mp mf k) ∧
        Own wr (R + 1 + 1) [.slice ma mp.length mc, .slice ga mf.length gc, .slice pa ps.length pc, .slice fa fs.length fc, .int .i64 (partsL fs mf), .map (some (R + 1))]) (fun i wr => mp.length - (intOf i).toNat)
      case atStart => exact ⟨0, Nat.zero_le _, rfl, gW, oR, mM, oX⟩
      case round =>
        clear gW oR mM oX
        obtain ⟨k, hk, rfl, gW, oR, mM, oX⟩ := hrel
        by_cases hlt : k < mp.length
        · obtain ⟨n, p, hi, hn, hgf⟩ := HF.out.pap k hlt
          have hn8 : n < 8 := by
            have := (List.getElem?_eq_some_iff.1 hn).1
            have := HF.out.np
            omega
          obtain ⟨t1, t2⟩ := take_bd HF.out hlt
          obtain ⟨u1, u2⟩ := usedTo_bd HF.out (n : Int) k (by omega)
          have hgm := hm.grow gW
          obtain ⟨b0, off0, rfl, hb0, r0⟩ := IRow.get hgm hi
          have Hgd := Lib.hid (show mp.getD k 0 = (n : Int) by simp [hi])
          clear hi hn hgf hgm
          obtain ⟨q0, q1, q2, q3, q4, q5⟩ := oX.1.c6
          have hl0 := mM.dr.look (n : Int) (wf64 (by omega) (by omega))
          have hwr : IntKind.i64.wrap (usedTo fs mp mf k (n : Int) + takeL fs mf k) = usedTo fs mp mf k (n : Int) + takeL fs mf k := IntWalk.i64_in _ (by omega)
          go_wp2
          go_region_with ((go_at_call 76; refine (take_any ps fs mp mf HF.out _ _ _ _ _ _ _ _ _ _ k rfl hlt _ (hf.grow (gW.tr (Gr.dr _))) (hg.grow (gW.tr (Gr.dr _)))).mono ?_; rintro e w1 ⟨rfl, hx⟩; have oX1 := oX.keep ((Gr.dr _).tr hx); obtain ⟨r0, r1, r2, r3, r4, r5⟩ := oX1.1.c6; have mM1 := mM.keep ((Gr.dr _).tr hx); have hl1 := mM1.look (n : Int) (wf64 (by omega) (by omega)); obtain ⟨w2, hput, mM2, hgr⟩ := mM1.put (by omega) (n : Int) (usedTo fs mp mf k n + takeL fs mf k) (wf64 (by omega) (by omega)) (wf64 (by omega) (by omega))))
          all_goals
            clear hwr
            go_wp2
            go_roundw
            case rel =>
              refine ⟨k + 1, by omega, by go_num, (gW.tr ((Gr.dr _).tr hx)).grown hgr ((gW.tr ((Gr.dr _).tr hx)).size) (fun j e => by cases e; have := HR.out; omega), (oR.keep ((Gr.dr _).tr hx)).grown hgr (by omega), mM2.congr (by omega) (fun y => ?_), oX1.grown hgr (by omega)⟩
              show _ = if y = mp.getD k 0 then usedTo fs mp mf k y + takeL fs mf k else usedTo fs mp mf k y
              rw [Hgd.out]
              by_cases hy : y = (n : Int)
              · rw [if_pos hy, if_pos hy, hy]
              · rw [if_neg hy, if_neg hy]
            case measure => simp [intOf]; omega
        · obtain rfl : k = mp.length := by omega
          obtain ⟨q0, q1, q2, q3, q4, q5⟩ := oX.1.c6
          obtain ⟨r0, r1, r2, r3, r4, r5⟩ := oR.1.c6
          have z := oR.2
          have z0 := z 0
          have z1 := z 1
          have z2 := z 2
          have z3 := z 3
          have z4 := z 4
          have z5 := z 5
          clear z
          go_wp2
          refine bodyPost_ret (v := .agg #[.slice ma mp.length mc, .slice ga mf.length gc, .slice pa ps.length pc, .slice fa fs.length fc, .int .i64 (partsL fs mf), .map (some (R + 1))]) (by simp [results, Try.results36, go_sem, r0, r1, r2, r3, r4, r5]) rfl ⟨R + 1, rfl, ?_, ?_⟩
          · have := HR.out
            exact (((((gW.setCell (by omega) _).setCell (by omega) _).setCell (by omega) _).setCell (by omega) _).setCell (by omega) _).setCell (by omega) _
          · exact ((((((mM.other (by omega)).other (by omega)).other (by omega)).other (by omega)).other (by omega)).other (by omega)).congr (by omega) (fun _ => rfl)

end Go.Proofs.Ytmioakcbgcgdhaa
