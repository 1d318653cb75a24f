/- Contracts of a sheet's thickness and of measure. -/
import Derived.Test.YtmioakcbgcgdhaaB10
namespace Go.Proofs.Ytmioakcbgcgdhaa
set_option linter.unusedVariables false
set_option linter.unusedSimpArgs false
open Go.RowKit

def thickP (up : Bool) (ps : List Paper) (mp : List Int) : Nat → Int
  | 0 => 0
  | k + 1 => if kindL (k : Int) == 1 then thickP up ps mp k + endOf up (paperN ps (mp.getD k 0)).tlo (paperN ps (mp.getD k 0)).thi else thickP up ps mp k

def thickF (up : Bool) (fs : List Flute) (mf : List Int) (s : Int) : Nat → Int
  | 0 => s
  | k + 1 => thickF up fs mf s k + endOf up (fluteAt fs mf k).hlo (fluteAt fs mf k).hhi

def thickL (up : Bool) (ps : List Paper) (fs : List Flute) (mp mf : List Int) : Int := thickF up fs mf (thickP up ps mp mp.length) mf.length

theorem endT_bd (up : Bool) (p : Paper) (h : goodP p = true) : 0 ≤ endOf up p.tlo p.thi ∧ endOf up p.tlo p.thi ≤ 1000 := by
  obtain ⟨_, _, _, h3, h4, h5, _⟩ := goodP_iff h
  unfold endOf
  split <;> omega

theorem thickP_bd (up : Bool) {ps : List Paper} {fs : List Flute} {mp mf : List Int} (F : Fine ps fs mp mf) : ∀ k, k ≤ mp.length → 0 ≤ thickP up ps mp k ∧ thickP up ps mp k ≤ 1000 * k
  | 0, _ => by simp [thickP]
  | k + 1, hk => by
    obtain ⟨h1, h2⟩ := thickP_bd up F k (by omega)
    obtain ⟨n, p, hn, hp, _⟩ := F.pap k (by omega)
    obtain ⟨e1, e2⟩ := endT_bd up p (F.good n p hp)
    have e : paperN ps (mp.getD k 0) = p := by simp [hn, paperN_eq hp]
    unfold thickP
    rw [e]
    split <;> omega

theorem thickF_bd (up : Bool) {ps : List Paper} {fs : List Flute} {mp mf : List Int} (F : Fine ps fs mp mf) {s : Int} (hs : 0 ≤ s ∧ s ≤ 100000) : ∀ k, k ≤ mf.length → 0 ≤ thickF up fs mf s k ∧ thickF up fs mf s k ≤ 100000 + 10000 * k
  | 0, _ => by simpa [thickF] using hs
  | k + 1, hk => by
    obtain ⟨h1, h2⟩ := thickF_bd up F hs k (by omega)
    obtain ⟨_, _, _, _, g1, g2, g3⟩ := flute_good F (show k < mf.length by omega)
    unfold thickF
    have : 0 ≤ endOf up (fluteAt fs mf k).hlo (fluteAt fs mf k).hhi ∧ endOf up (fluteAt fs mf k).hlo (fluteAt fs mf k).hhi ≤ 10000 := by
      unfold endOf
      split <;> omega
    omega

set_option maxRecDepth 100000 in
set_option maxHeartbeats 4000000 in
theorem thick_any (up : Bool) (ps : List Paper) (fs : List Flute) (mp mf : List Int) (F : Fine ps fs mp mf) (pa fa ma ga : Option Addr) (pc fc mc gc m : Nat) (w : World) (hp : PRow w pa ps) (hf : FRow w fa fs) (ha : IRow w ma mp) (hg : IRow w ga mf) :
    Calls Try.prog 80 #[.agg #[.slice ma mp.length mc, .slice ga mf.length gc, .slice pa ps.length pc, .slice fa fs.length fc, .int .i64 (partsL fs mf), .map (some m)], .func (.func (endFn up)) #[] #[]] w fun e w' => e = .returned (.int .i64 (thickL up ps fs mp mf)) ∧ Gr w w' := by
  have gg := Gr.al w (.cells #[.slice ma mp.length mc, .slice ga mf.length gc, .slice pa ps.length pc, .slice fa fs.length fc, .int .i64 (partsL fs mf), .map (some m)] 109)
  have hb := Box.new w [.slice ma mp.length mc, .slice ga mf.length gc, .slice pa ps.length pc, .slice fa fs.length fc, .int .i64 (partsL fs mf), .map (some m)] 109 w.heap.size rfl
  have hl1 := hp.1
  have hl2 := hf.1
  have hl3 := ha.1
  have hl4 := hg.1
  have hmp := F.mpl
  have hf2 := F.f2
  have hm5 : mp.length ≤ 5 := by omega
  have Hmp := Lib.hid hmp
  have HF := Lib.hid F
  have hcall := callEnd up
  have hfi := field123_2
  clear hmp
  go_enter Try.func80, Try.ntmps80
  go_wp2
  refine wp_abs (fun W => Gr w W ∧ Box W w.heap.size [.slice ma mp.length mc, .slice ga mf.length gc, .slice pa ps.length pc, .slice fa fs.length fc, .int .i64 (partsL fs mf), .map (some m)]) ⟨gg, hb⟩ ?_
  clear gg hb
  rintro W ⟨gW, hb⟩
  go_loopw [13, 5] (fun i s wr => ∃ k : Nat, k ≤ mp.length ∧ i = .int .i64 k ∧ s = .int .i64 (thickP up ps mp k) ∧ Gr w wr ∧ Box wr w.heap.size [.slice ma mp.length mc, .slice ga mf.length gc, .slice pa ps.length pc, .slice fa fs.length fc, .int .i64 (partsL fs mf), .map (some m)]) (fun i s wr => mp.length - (intOf i).toNat)
  case atStart => exact ⟨0, Nat.zero_le _, rfl, rfl, gW, hb⟩
  case round =>
    clear gW hb
    obtain ⟨k, hk, rfl, rfl, gW, hb⟩ := hrel
    obtain ⟨t0, t1⟩ := thickP_bd up HF.out k hk
    by_cases hlt : k < mp.length
    · obtain ⟨n, x, hn, hx, _⟩ := HF.out.pap k hlt
      obtain ⟨e0, e1⟩ := endT_bd up x (HF.out.good n x hx)
      have hnl : n < ps.length := (List.getElem?_eq_some_iff.1 hx).1
      have hnI : (n : Int) < (ps.length : Int) := by omega
      have hst : thickP up ps mp (k + 1) = if kindL (k : Int) == 1 then thickP up ps mp k + endOf up x.tlo x.thi else thickP up ps mp k := by
        have e : paperN ps (mp.getD k 0) = x := by simp [hn, paperN_eq hx]
        rw [← e]; rfl
      have Hst := Lib.hid hst
      obtain ⟨b0, off0, rfl, hb0, r0⟩ := IRow.get (ha.grow gW) hn
      obtain ⟨b1, off1, rfl, hb1, s0, s1, s2, s3, s4, s5, s6, s7⟩ := PRow.get (hp.grow gW) hx
      clear hst hn hx
      obtain ⟨q0, q1, q2, q3, q4, q5⟩ := hb.c6
      cases hk1 : (kindL (k : Int) == 1) with
      | true =>
        go_wp2_with (first | (go_at_call 74; refine (kindAt_any k (by omega) _).mono ?_; rintro e w' ⟨rfl, rfl⟩) | (refine (end_any up _ _ _).mono ?_; rintro e w2 ⟨rfl, hy⟩))
        go_roundw
        case rel => exact ⟨k + 1, by omega, by go_num, by rw [Hst.out, hk1]; rfl, gW.tr hy, hb.keep hy⟩
        case measure => simp [intOf]; omega
      | false =>
        go_wp2_with (first | (go_at_call 74; refine (kindAt_any k (by omega) _).mono ?_; rintro e w' ⟨rfl, rfl⟩))
        go_roundw
        case rel => exact ⟨k + 1, by omega, by go_num, by rw [Hst.out, hk1]; rfl, gW, hb⟩
        case measure => simp [intOf]; omega
    · obtain rfl : k = mp.length := by omega
      clear hlt hk
      obtain ⟨q0, q1, q2, q3, q4, q5⟩ := hb.c6
      have hs0 : 0 ≤ thickP up ps mp mp.length ∧ thickP up ps mp mp.length ≤ 100000 := by omega
      have Hs0 := Lib.hid hs0
      clear hs0 t0 t1
      go_wp2
      clear q0 q1 q2 q3 q4 q5
      go_loopw [37, 5] (fun i s wr => ∃ k : Nat, k ≤ mf.length ∧ i = .int .i64 k ∧ s = .int .i64 (thickF up fs mf (thickP up ps mp mp.length) k) ∧ Gr w wr ∧ Box wr w.heap.size [.slice ma mp.length mc, .slice ga mf.length gc, .slice pa ps.length pc, .slice fa fs.length fc, .int .i64 (partsL fs mf), .map (some m)]) (fun i s wr => mf.length - (intOf i).toNat)
      case atStart => exact ⟨0, Nat.zero_le _, rfl, rfl, gW, hb⟩
      case round =>
        clear gW hb
        obtain ⟨k, hk, rfl, rfl, gW, hb⟩ := hrel
        obtain ⟨t0, t1⟩ := thickF_bd up HF.out Hs0.out k hk
        by_cases hlt : k < mf.length
        · obtain ⟨n, f, hi, hn, hgf⟩ := HF.out.flu k hlt
          have ef := fluteAt_eq hi hn
          obtain ⟨_, _, _, _, g1, g2, g3⟩ := goodF_iff hgf
          have he : 0 ≤ endOf up f.hlo f.hhi ∧ endOf up f.hlo f.hhi ≤ 10000 := by
            unfold endOf
            split <;> omega
          obtain ⟨he0, he1⟩ := he
          have hst : thickF up fs mf (thickP up ps mp mp.length) (k + 1) = thickF up fs mf (thickP up ps mp mp.length) k + endOf up f.hlo f.hhi := by rw [← ef]; rfl
          have Hst := Lib.hid hst
          have Hi := Lib.hid hi
          have Hn := Lib.hid hn
          clear hst hi hn ef hgf
          obtain ⟨q0, q1, q2, q3, q4, q5⟩ := hb.c6
          have hf1 := hf.grow gW
          have hg1 := hg.grow gW
          go_wp2_with (first | (go_at_call 75; refine (flute_any _ _ _ _ _ _ _ _ _ _ _ _ _ _ _ k rfl n f Hi.out Hn.out _ hf1 hg1).mono ?_; rintro e w1 ⟨rfl, hx⟩) | (refine (end_any up _ _ _).mono ?_; rintro e w2 ⟨rfl, hy⟩))
          go_roundw
          case rel => exact ⟨k + 1, by omega, by go_num, by rw [Hst.out], gW.tr (hx.tr hy), hb.keep (hx.tr hy)⟩
          case measure => simp [intOf]; omega
        · obtain rfl : k = mf.length := by omega
          go_wp2
          go_ret
          exact ⟨rfl, gW⟩

end Go.Proofs.Ytmioakcbgcgdhaa
