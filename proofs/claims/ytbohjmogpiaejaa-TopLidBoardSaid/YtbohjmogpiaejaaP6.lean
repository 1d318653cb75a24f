/- Contract of pubCaliper. -/
import Derived.Test.YtbohjmogpiaejaaP1
import Derived.Test.YtbohjmogpiaejaaB11
import Derived.Deep.QuietTactic
import Derived.BigQuiet
namespace Go.Proofs.Ytbohjmogpiaejaa
set_option linter.unusedVariables false
set_option linter.unusedSimpArgs false
open Go.RowKit

/-- What a place of a board adds to its caliper, in a truth by bytes. -/
def calAt (ps : List Paper) (fs : List Flute) (mp mf truth : List Int) (k : Nat) : Int :=
  if k % 2 = 0 then inL (paperN ps (mp.getD k 0)).tlo (paperN ps (mp.getD k 0)).thi (byteL truth k) else inL (fluteAt fs mf (k / 2)).hlo (fluteAt fs mf (k / 2)).hhi (byteL truth k)
def calTo (ps : List Paper) (fs : List Flute) (mp mf truth : List Int) : Nat → Int
  | 0 => 0
  | k + 1 => calTo ps fs mp mf truth k + calAt ps fs mp mf truth k
def calL (ps : List Paper) (fs : List Flute) (mp mf truth : List Int) : Int := calTo ps fs mp mf truth mp.length

theorem calAt_bd {ps : List Paper} {fs : List Flute} {mp mf truth : List Int} (F : Fine ps fs mp mf) (hT : Bytes truth) {k : Nat} (hk : k < mp.length) : 0 ≤ calAt ps fs mp mf truth k ∧ calAt ps fs mp mf truth k ≤ 10000 := by
  obtain ⟨y0, y1⟩ := byteL_bd hT k
  unfold calAt
  split
  · obtain ⟨n, p, hn, hp, _⟩ := F.pap k hk
    obtain ⟨_, _, _, h3, h4, h5, _⟩ := goodP_iff (F.good n p hp)
    have e : paperN ps (mp.getD k 0) = p := by simp [hn, paperN_eq hp]
    rw [e]
    obtain ⟨a, b⟩ := inL_bd h4 y0 y1
    omega
  · have hm := F.mpl
    obtain ⟨_, _, _, _, g1, g2, g3⟩ := flute_good F (show k / 2 < mf.length by omega)
    obtain ⟨a, b⟩ := inL_bd g2 y0 y1
    omega

theorem calTo_bd {ps : List Paper} {fs : List Flute} {mp mf truth : List Int} (F : Fine ps fs mp mf) (hT : Bytes truth) : ∀ k, k ≤ mp.length → 0 ≤ calTo ps fs mp mf truth k ∧ calTo ps fs mp mf truth k ≤ 10000 * k
  | 0, _ => by simp [calTo]
  | k + 1, hk => by
    obtain ⟨a, b⟩ := calTo_bd F hT k (by omega)
    obtain ⟨c, d⟩ := calAt_bd F hT (show k < mp.length by omega)
    unfold calTo
    omega

set_option maxRecDepth 100000 in
set_option maxHeartbeats 4000000 in
theorem pubCaliper_any (ps : List Paper) (fs : List Flute) (mp mf truth : List Int) (F : Fine ps fs mp mf) (hT : Bytes truth) (pa fa ma ga ta : Option Addr) (pc fc mc gc tc : Nat) (w : World) (hp : PRow w pa ps) (hf : FRow w fa fs) (ha : IRow w ma mp) (hg : IRow w ga mf) (ht : URow w ta truth) :
    Calls Try.prog 14 #[.agg #[.slice pa ps.length pc, .slice fa fs.length fc], .agg #[.slice ma mp.length mc, .slice ga mf.length gc], .slice ta truth.length tc] w fun e w' => e = .returned (.int .i64 (calL ps fs mp mf truth)) ∧ Gr w w' := by
  have gg := (Gr.al w (.cells #[.slice pa ps.length pc, .slice fa fs.length fc] 33)).tr (Gr.al _ (.cells #[.slice ma mp.length mc, .slice ga mf.length gc] 37))
  have hb := (Box.new w [.slice pa ps.length pc, .slice fa fs.length fc] 33 w.heap.size rfl).keep (Gr.al _ (.cells #[.slice ma mp.length mc, .slice ga mf.length gc] 37))
  have hc := Box.new (w.alloc (.cells #[.slice pa ps.length pc, .slice fa fs.length fc] 33)) [.slice ma mp.length mc, .slice ga mf.length gc] 37 (w.heap.size + 1) (by simp)
  have hl1 := hp.1
  have hl2 := hf.1
  have hl3 := ha.1
  have hl4 := hg.1
  have hmp := F.mpl
  have hf2 := F.f2
  have hm5 : mp.length ≤ 5 := by omega
  have Hmp := Lib.hid hmp
  have HF := Lib.hid F
  have HT := Lib.hid hT
  have HE := Lib.hid (show calTo ps fs mp mf truth mp.length = calL ps fs mp mf truth from rfl)
  clear hmp
  go_enter Try.func14, Try.ntmps14
  go_wp2
  refine wp_abs (fun W => Gr w W ∧ Box W w.heap.size [.slice pa ps.length pc, .slice fa fs.length fc] ∧ Box W (w.heap.size + 1) [.slice ma mp.length mc, .slice ga mf.length gc]) ⟨gg, hb, hc⟩ ?_
  clear gg hb hc
  rintro W ⟨gW, hb, hc⟩
  go_loopw [8, 7] (fun i s wr => ∃ k : Nat, k ≤ mp.length ∧ i = .int .i64 k ∧ s = .int .i64 (calTo ps fs mp mf truth k) ∧ Gr w wr ∧ Box wr w.heap.size [.slice pa ps.length pc, .slice fa fs.length fc] ∧ Box wr (w.heap.size + 1) [.slice ma mp.length mc, .slice ga mf.length gc]) (fun i s wr => mp.length - (intOf i).toNat)
  case atStart => exact ⟨0, Nat.zero_le _, rfl, rfl, gW, hb, hc⟩
  case round =>
    clear gW hb hc
    obtain ⟨k, hk, rfl, rfl, gW, hb, hc⟩ := hrel
    obtain ⟨t0, t1⟩ := calTo_bd HF.out HT.out k hk
    by_cases hlt : k < mp.length
    · obtain ⟨a0, a1⟩ := calAt_bd HF.out HT.out hlt
      obtain ⟨y0, y1⟩ := byteL_bd HT.out k
      obtain ⟨q0, q1⟩ := hb.c2
      obtain ⟨q2, q3⟩ := hc.c2
      cases hk1 : ((k : Int) % 2 == 0) with
      | true =>
        have hke : k % 2 = 0 := by have : (k : Int) % 2 = 0 := by simpa using hk1
                                   omega
        obtain ⟨n, x, hn, hx, _⟩ := HF.out.pap k hlt
        obtain ⟨_, _, _, h3, h4, h5, _⟩ := goodP_iff (HF.out.good n x hx)
        have hnl : n < ps.length := (List.getElem?_eq_some_iff.1 hx).1
        have hnI : (n : Int) < (ps.length : Int) := by omega
        have hst : calAt ps fs mp mf truth k = inL x.tlo x.thi (byteL truth k) := by
          have e : paperN ps (mp.getD k 0) = x := by simp [hn, paperN_eq hx]
          unfold calAt
          rw [if_pos hke, e]
        have Hst := Lib.hid hst
        rw [hst] at a0 a1
        obtain ⟨b0, off0, rfl, hb0, r00⟩ := IRow.get ha hn
        obtain ⟨b1, off1, rfl, hb1, _, _, t2, t3, _, _, _, _⟩ := PRow.get hp hx
        have r0 := gW.keep r00
        clear hst hn hx
        have hwr : IntKind.i64.wrap (calTo ps fs mp mf truth k + inL x.tlo x.thi (byteL truth k)) = calTo ps fs mp mf truth k + inL x.tlo x.thi (byteL truth k) := IntWalk.i64_in _ (by omega)
        go_wp2
        clear q0 q1 q2 q3
        have gd := Gr.dr wr
        obtain ⟨q0, q1⟩ := (hb.keep gd).c2
        obtain ⟨q2, q3⟩ := (hc.keep gd).c2
        have r1 := gd.keep r0
        have v2 := gd.keep (gW.keep t2)
        have v3 := gd.keep (gW.keep t3)
        go_region_held3 (fun w' => w'.cell? ⟨w.heap.size, 0, none⟩ = some (.slice (some ⟨b1, off1, none⟩) ps.length pc) ∧ w'.cell? ⟨w.heap.size + 1, 0, none⟩ = some (.slice (some ⟨b0, off0, none⟩) mp.length mc) ∧ w'.cell? ⟨b0, off0 + k, none⟩ = some (.int .i64 n) ∧ w'.cell? ⟨b1, off1 + n * 8 + 2, none⟩ = some (.int .i64 x.tlo) ∧ w'.cell? ⟨b1, off1 + n * 8 + 3, none⟩ = some (.int .i64 x.thi)) (first | exact ⟨q0, q2, r1, v2, v3⟩ | go_keep) (first
          | (go_at_call 33; (refine (pubByte_any truth HT.out k (by omega) _ _ _ (ht.grow (gW.tr gd))).mono ?_); rintro e w2 ⟨rfl, rfl⟩)
          | (go_at_call 32; (refine (pubIn_any x.tlo x.thi (byteL truth k) (by omega) h4 (by omega) y0 y1 _).mono ?_); rintro e w3 ⟨rfl, hy⟩; have g3 := gd.tr hy; (obtain ⟨q0, q1⟩ := (hb.keep g3).c2); (obtain ⟨q2, q3⟩ := (hc.keep g3).c2); have r1 := g3.keep r0; have v2 := g3.keep (gW.keep t2); have v3 := g3.keep (gW.keep t3)))
        all_goals
          clear hwr
          go_wp2
          go_roundw
          case rel =>
            exact ⟨k + 1, by omega, by go_num, by show _ = Value.int .i64 (calTo ps fs mp mf truth k + calAt ps fs mp mf truth k); rw [Hst.out], gW.tr g3, hb.keep g3, hc.keep g3⟩
          case measure => simp [intOf]; omega
      | false =>
        have hko : ¬ k % 2 = 0 := by
          have : ¬ (k : Int) % 2 = 0 := by simpa using hk1
          omega
        obtain ⟨n, x, hn, hx, hgx⟩ := HF.out.flu (k / 2) (by have := Hmp.out; omega)
        obtain ⟨_, _, _, _, h3, h4, h5⟩ := goodF_iff hgx
        have hk2l : k / 2 < mf.length := by have := Hmp.out; omega
        have hk2 : (k : Int) / 2 < (mf.length : Int) := by omega
        have hk20 : (0 : Int) ≤ (k : Int) / 2 := by omega
        have hk2n : ((k : Int) / 2).toNat = k / 2 := by omega
        have hk2t : (k : Int).tdiv 2 = (k : Int) / 2 := Int.tdiv_eq_ediv_of_nonneg (by omega)
        have hk2w : IntKind.i64.wrap ((k : Int) / 2) = (k : Int) / 2 := IntWalk.i64_in _ (by omega)
        have hnl : n < fs.length := (List.getElem?_eq_some_iff.1 hx).1
        have hnI : (n : Int) < (fs.length : Int) := by omega
        have hst : calAt ps fs mp mf truth k = inL x.hlo x.hhi (byteL truth k) := by
          unfold calAt
          rw [if_neg hko, fluteAt_eq hn hx]
        have Hst := Lib.hid hst
        rw [hst] at a0 a1
        obtain ⟨b0, off0, rfl, hb0, r00⟩ := IRow.get hg hn
        obtain ⟨b1, off1, rfl, hb1, _, _, t2, t3⟩ := FRow.get hf hx
        have r0 := gW.keep r00
        clear hst hn hx
        have hwr : IntKind.i64.wrap (calTo ps fs mp mf truth k + inL x.hlo x.hhi (byteL truth k)) = calTo ps fs mp mf truth k + inL x.hlo x.hhi (byteL truth k) := IntWalk.i64_in _ (by omega)
        go_wp2
        clear q0 q1 q2 q3
        have gd := Gr.dr wr
        obtain ⟨q0, q1⟩ := (hb.keep gd).c2
        obtain ⟨q2, q3⟩ := (hc.keep gd).c2
        have r1 := gd.keep r0
        have v2 := gd.keep (gW.keep t2)
        have v3 := gd.keep (gW.keep t3)
        go_region_held3 (fun w' => w'.cell? ⟨w.heap.size, 1, none⟩ = some (.slice (some ⟨b1, off1, none⟩) fs.length fc) ∧ w'.cell? ⟨w.heap.size + 1, 1, none⟩ = some (.slice (some ⟨b0, off0, none⟩) mf.length gc) ∧ w'.cell? ⟨b0, off0 + k / 2, none⟩ = some (.int .i64 n) ∧ w'.cell? ⟨b1, off1 + n * 4 + 2, none⟩ = some (.int .i64 x.hlo) ∧ w'.cell? ⟨b1, off1 + n * 4 + 3, none⟩ = some (.int .i64 x.hhi)) (first | exact ⟨q1, q3, r1, v2, v3⟩ | go_keep) (first
          | (go_at_call 33; (refine (pubByte_any truth HT.out k (by omega) _ _ _ (ht.grow (gW.tr gd))).mono ?_); rintro e w2 ⟨rfl, rfl⟩)
          | (go_at_call 32; (refine (pubIn_any x.hlo x.hhi (byteL truth k) (by omega) h4 (by omega) y0 y1 _).mono ?_); rintro e w3 ⟨rfl, hy⟩; have g3 := gd.tr hy; (obtain ⟨q0, q1⟩ := (hb.keep g3).c2); (obtain ⟨q2, q3⟩ := (hc.keep g3).c2); have r1 := g3.keep r0; have v2 := g3.keep (gW.keep t2); have v3 := g3.keep (gW.keep t3)))
        all_goals
          clear hwr hk2t hk2w
          go_wp2
          go_roundw
          case rel =>
            exact ⟨k + 1, by omega, by go_num, by show _ = Value.int .i64 (calTo ps fs mp mf truth k + calAt ps fs mp mf truth k); rw [Hst.out], gW.tr g3, hb.keep g3, hc.keep g3⟩
          case measure => simp [intOf]; omega
    · obtain rfl : k = mp.length := by omega
      obtain ⟨q0, q1⟩ := hb.c2
      obtain ⟨q2, q3⟩ := hc.c2
      go_wp2
      go_ret
      exact ⟨ret_int HE.out, gW⟩

end Go.Proofs.Ytbohjmogpiaejaa
