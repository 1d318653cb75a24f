/- armMake: what it makes, and what stays while it works. Contract of lay: a sheet's parts and what is used of each paper. Contracts of total: what all papers of a board have together. Contracts of the closures of a sheet, and of lowest. Contracts of a sheet's weight, strength, cost and moist weight. Contracts of a sheet's thickness and of measure. The board that armMake makes of armStore's store has no error; its caliper. How strong a board of a Ware is at most. What a board of a Ware weighs moist. Contract of a sheet's measure. Contracts of Weigh, Strength, Cost. Contract of Measure. Contracts of Strength and Cost. The contract of armMake. (Made by gen_arm5.py.) E0 (tops) P1 (tops) P2 (tops) P3 (tops) E1 (tops) -/
import Derived.Test.YtcdilmagcdbogaaQE21c
import Derived.Test.YtcdilmagcdbogaaQE21a
import Derived.Deep.AppendLies
import Derived.Deep.RegionWith
import Derived.Deep.RegionHeld3
import Derived.Deep.CutRange
import Derived.Deep.DeepCutAuto
import Derived.Deep.MidRow
namespace Go.Proofs.Ytcdilmagcdbogaa
set_option linter.unusedVariables false
set_option linter.unusedSimpArgs false
open Go.RowKit

def kindW (P : List V6) (i : Nat) : Int := (paperW i (wareP P i)).kind

def kindsW (P : List V6) (c : Int) : Nat → List Int
  | 0 => []
  | n + 1 => kindsW P c n ++ (if kindW P n = c then [(n : Int)] else [])

theorem kindsW_len (P : List V6) (c : Int) : ∀ n, (kindsW P c n).length ≤ n
  | 0 => by simp [kindsW]
  | n + 1 => by
    have := kindsW_len P c n
    unfold kindsW
    split <;> simp <;> omega

theorem kindsW_mono (P : List V6) (c : Int) : ∀ n m, n ≤ m → (kindsW P c n).length ≤ (kindsW P c m).length
  | n, 0, h => by
    have : n = 0 := by omega
    subst this
    exact Nat.le_refl _
  | n, m + 1, h => by
    by_cases e : n = m + 1
    · subst e; exact Nat.le_refl _
    · have := kindsW_mono P c n m (by omega)
      show _ ≤ (kindsW P c m ++ _).length
      rw [List.length_append]
      omega

theorem kindsW_pos1 (P : List V6) {n : Nat} (h : 2 ≤ n) : 0 < (kindsW P 1 n).length := by
  have h1 := kindsW_mono P 1 1 n (by omega)
  have h2 : (kindsW P 1 1).length = 1 := by simp [kindsW, kindW, paperW]
  omega

theorem kindsW_pos2 (P : List V6) {n : Nat} (h : 2 ≤ n) : 0 < (kindsW P 2 n).length := by
  have h1 := kindsW_mono P 2 2 n h
  have h2 : (kindsW P 2 2).length = 1 := by simp [kindsW, kindW, paperW]
  omega

/-- All of a kind's numbers are of this kind. -/
theorem kindsW_mem {P : List V6} {c : Int} : ∀ {n : Nat} {x : Int}, x ∈ kindsW P c n → ∃ i : Nat, x = (i : Int) ∧ i < n ∧ kindW P i = c
  | 0, x, h => by simp [kindsW] at h
  | n + 1, x, h => by
    unfold kindsW at h
    rcases List.mem_append.1 h with h | h
    · obtain ⟨i, e, hi, hk⟩ := kindsW_mem h
      exact ⟨i, e, by omega, hk⟩
    · split at h
      · rename_i hk
        simp at h
        exact ⟨n, h, by omega, hk⟩
      · simp at h

theorem kindW_12 {P : List V6} (hP : ∀ v ∈ P, B6 v) {i : Nat} (hi : i < 5) : kindW P i = 1 ∨ kindW P i = 2 := by
  obtain ⟨⟨h0, h1⟩, _⟩ := wareP_B hP hi
  unfold kindW paperW
  simp only
  split <;> omega

def flW (Y : List Int) : Nat := 1 + (byteL Y 0).toNat % 2

theorem flW_12 (Y : List Int) : flW Y = 1 ∨ flW Y = 2 := by unfold flW; omega

def pickW (L : List Int) (n : Nat) : Int := L.getD (n % L.length) 0

def kindRow (P : List V6) (i : Nat) : List Int := kindsW P (if i % 2 = 0 then 1 else 2) (npW P.length)

def makeWP (P : List V6) (Y : List Int) : List Int := (List.range (2 * flW Y + 1)).map fun i => pickW (kindRow P i) (byteL Y (i + 1)).toNat

def makeWF (F : List V3) (Y : List Int) : List Int := (List.range (flW Y)).map fun j => (((byteL Y (2 * j + 1 + 6)).toNat % nfW F.length : Nat) : Int)

theorem makeWP_len (P : List V6) (Y : List Int) : (makeWP P Y).length = 2 * flW Y + 1 := by simp [makeWP]

theorem makeWF_len (F : List V3) (Y : List Int) : (makeWF F Y).length = flW Y := by simp [makeWF]

theorem makeWP_at {P : List V6} {Y : List Int} {k : Nat} (h : k < 2 * flW Y + 1) : (makeWP P Y)[k]? = some (pickW (kindRow P k) (byteL Y (k + 1)).toNat) := by
  unfold makeWP
  rw [List.getElem?_map, List.getElem?_range h]
  rfl

theorem makeWF_at {F : List V3} {Y : List Int} {k : Nat} (h : k < flW Y) : (makeWF F Y)[k]? = some (((byteL Y (2 * k + 1 + 6)).toNat % nfW F.length : Nat) : Int) := by
  unfold makeWF
  rw [List.getElem?_map, List.getElem?_range h]
  rfl

/-- What stays while armMake works. -/
structure MkS (w : World) (vs : List Value) (D : Nat) (sa sg : Option Addr) (SP : List Paper) (SF : List Flute) (sc gc : Nat) (v : World) : Prop where
  gr : Gr w v
  hx : Box v w.heap.size vs
  or : Own v (w.heap.size + 1) [.slice none 0 0, .slice none 0 0]
  b3 : Box v D [.slice sa SP.length sc, .slice sg SF.length gc]
  rp : PRow v sa SP
  rf : FRow v sg SF

/-- The places beside it. -/
structure MkP (w : World) (D : Nat) (sa sg : Option Addr) : Prop where
  hD : w.heap.size + 1 < D
  ha : ∀ b off, sa = some ⟨b, off, none⟩ → b < D
  hg : ∀ b off, sg = some ⟨b, off, none⟩ → b < D

variable {w : World} {vs : List Value} {D : Nat} {sa sg : Option Addr} {SP : List Paper} {SF : List Flute} {sc gc : Nat} {v v' : World}

theorem MkS.keep (h : MkS w vs D sa sg SP SF sc gc v) (g : Gr v v') : MkS w vs D sa sg SP SF sc gc v' :=
  ⟨h.gr.tr g, h.hx.keep g, h.or.keep g, h.b3.keep g, h.rp.grow g, h.rf.grow g⟩

theorem MkS.set (h : MkS w vs D sa sg SP SF sc gc v) (p : MkP w D sa sg) {c : Nat} (hc : D < c) (i : Nat) (u : Value) : MkS w vs D sa sg SP SF sc gc (v.setCell ⟨c, i, none⟩ u) := by
  have := p.hD
  exact ⟨h.gr.setCell (show w.heap.size ≤ c by omega) u, h.hx.other (by omega), h.or.other (by omega), h.b3.other (by omega), h.rp.setAt (fun b off e => by have := p.ha b off e; omega) i u, h.rf.setAt (fun b off e => by have := p.hg b off e; omega) i u⟩

theorem MkS.grown (h : MkS w vs D sa sg SP SF sc gc v) (p : MkP w D sa sg) {row : Option Nat} (hg : v.grownBy v' row) (hr : ∀ r, row = some r → D < r) : MkS w vs D sa sg SP SF sc gc v' := by
  have := p.hD
  exact ⟨Below.grown h.gr hg h.gr.size (fun k hk => by have := hr k hk; omega), h.hx.grown hg (fun r e => by have := hr r e; omega), h.or.grownRow hg (fun r e => by have := hr r e; omega), h.b3.grown hg (fun r e => by have := hr r e; omega),
    h.rp.grown hg (fun r b off e e' => by have := hr r e; have := p.ha b off e'; omega), h.rf.grown hg (fun r b off e e' => by have := hr r e; have := p.hg b off e'; omega)⟩

end Go.Proofs.Ytcdilmagcdbogaa

namespace Go.Proofs.Ytcdilmagcdbogaa
set_option linter.unusedVariables false
set_option linter.unusedSimpArgs false
open Go.RowKit

/-- What lay hands back. -/
def LaidPost (ps : List Paper) (fs : List Flute) (mp mf : List Int) (pa fa ma ga : Option Addr) (pc fc mc gc : Nat) (w : World) (e : Ending) (w' : World) : Prop :=
  ∃ b, e = .returned (.agg #[.slice ma mp.length mc, .slice ga mf.length gc, .slice pa ps.length pc, .slice fa fs.length fc, .int .i64 (partsL fs mf), .map (some b)]) ∧ Gr w w' ∧ MapIs w' b 5 (usedL fs mp mf)

set_option maxRecDepth 100000 in
set_option maxHeartbeats 4000000 in
theorem lay_any (ps : List Paper) (fs : List Flute) (mp mf : List Int) (F : Fine ps fs mp mf) (pa fa ma ga : Option Addr) (pc fc mc gc : Nat) (w : World) (hp : PRow w pa ps) (hf : FRow w fa fs) (hm : IRow w ma mp) (hg : IRow w ga mf) :
    Calls Try.prog 105 #[.agg #[.slice pa ps.length pc, .slice fa fs.length fc], .agg #[.slice ma mp.length mc, .slice ga mf.length gc]] w (LaidPost ps fs mp mf pa fa ma ga pc fc mc gc w) := by
  have hl1 := hp.1
  have hl2 := hf.1
  have hl3 := hm.1
  have hl4 := hg.1
  have hf1 := F.f1
  have hf2 := F.f2
  have hmpl := F.mpl
  have HF := Lib.hid F
  have Hmpl := Lib.hid hmpl
  have hmp5 : mp.length ≤ 5 := by omega
  clear hmpl
  -- the blocks
  have g1 := Gr.al w (.cells #[.slice pa ps.length pc, .slice fa fs.length fc] 124)
  have g2 := g1.tr (Gr.al _ (.cells #[.slice ma mp.length mc, .slice ga mf.length gc] 127))
  have g3 := Gr.al ((w.alloc (.cells #[.slice pa ps.length pc, .slice fa fs.length fc] 124)).alloc (.cells #[.slice ma mp.length mc, .slice ga mf.length gc] 127)) (.cells #[.slice none 0 0, .slice none 0 0, .slice none 0 0, .slice none 0 0, .int .i64 0, .map none] 182)
  have o3 := Own.new ((w.alloc (.cells #[.slice pa ps.length pc, .slice fa fs.length fc] 124)).alloc (.cells #[.slice ma mp.length mc, .slice ga mf.length gc] 127)) [.slice none 0 0, .slice none 0 0, .slice none 0 0, .slice none 0 0, .int .i64 0, .map none] 182 (w.heap.size + 1 + 1) (by simp)
  have m4 := MapIs.made (((w.alloc (.cells #[.slice pa ps.length pc, .slice fa fs.length fc] 124)).alloc (.cells #[.slice ma mp.length mc, .slice ga mf.length gc] 127)).alloc (.cells #[.slice none 0 0, .slice none 0 0, .slice none 0 0, .slice none 0 0, .int .i64 0, .map none] 182))
  have g4 := Gr.al (((w.alloc (.cells #[.slice pa ps.length pc, .slice fa fs.length fc] 124)).alloc (.cells #[.slice ma mp.length mc, .slice ga mf.length gc] 127)).alloc (.cells #[.slice none 0 0, .slice none 0 0, .slice none 0 0, .slice none 0 0, .int .i64 0, .map none] 182)) (.map #[] 0)
  have e4 : (((w.alloc (.cells #[.slice pa ps.length pc, .slice fa fs.length fc] 124)).alloc (.cells #[.slice ma mp.length mc, .slice ga mf.length gc] 127)).alloc (.cells #[.slice none 0 0, .slice none 0 0, .slice none 0 0, .slice none 0 0, .int .i64 0, .map none] 182)).heap.size = w.heap.size + 1 + 1 + 1 := by simp
  rw [e4] at m4
  have o5 := Own.new ((((w.alloc (.cells #[.slice pa ps.length pc, .slice fa fs.length fc] 124)).alloc (.cells #[.slice ma mp.length mc, .slice ga mf.length gc] 127)).alloc (.cells #[.slice none 0 0, .slice none 0 0, .slice none 0 0, .slice none 0 0, .int .i64 0, .map none] 182)).alloc (.map #[] 0)) [.slice ma mp.length mc, .slice ga mf.length gc, .slice pa ps.length pc, .slice fa fs.length fc, .int .i64 1, .map (some (w.heap.size + 1 + 1 + 1))] 182 (w.heap.size + 1 + 1 + 1 + 1) (by simp)
  have g5 := Gr.al ((((w.alloc (.cells #[.slice pa ps.length pc, .slice fa fs.length fc] 124)).alloc (.cells #[.slice ma mp.length mc, .slice ga mf.length gc] 127)).alloc (.cells #[.slice none 0 0, .slice none 0 0, .slice none 0 0, .slice none 0 0, .int .i64 0, .map none] 182)).alloc (.map #[] 0)) (.cells #[.slice ma mp.length mc, .slice ga mf.length gc, .slice pa ps.length pc, .slice fa fs.length fc, .int .i64 1, .map (some (w.heap.size + 1 + 1 + 1))] 182)
  have gall := g2.tr (g3.tr (g4.tr g5))
  have o3' := o3.keep (g4.tr g5)
  have m4' := m4.keep g5
  clear g1 g2 g3 g4 g5 e4 o3 m4
  have hmm := @run_makeMap Try.prog
  go_enter Try.func105, Try.ntmps105
  go_wp2
  refine wp_abs (fun W => Gr w W ∧ Own W (w.heap.size + 1 + 1) [.slice none 0 0, .slice none 0 0, .slice none 0 0, .slice none 0 0, .int .i64 0, .map none] ∧ MapIs W (w.heap.size + 1 + 1 + 1) 0 (fun _ => 0) ∧
    Own W (w.heap.size + 1 + 1 + 1 + 1) [.slice ma mp.length mc, .slice ga mf.length gc, .slice pa ps.length pc, .slice fa fs.length fc, .int .i64 1, .map (some (w.heap.size + 1 + 1 + 1))]) ⟨gall, o3', m4', o5⟩ ?_
  clear gall o3' m4' o5
  rintro W ⟨gW, oR, mM, oX⟩
  have HR := Lib.hid (show w.heap.size ≤ w.heap.size + 1 + 1 by omega)
  generalize w.heap.size + 1 + 1 = R at *
  clear hmm
  have hfi := field123_0
  go_loopw [17] (fun i wr => ∃ k : Nat, k ≤ mf.length ∧ i = .int .i64 k ∧ Gr w wr ∧ Own wr R [.slice none 0 0, .slice none 0 0, .slice none 0 0, .slice none 0 0, .int .i64 0, .map none] ∧ MapIs wr (R + 1) 0 (fun _ => 0) ∧
    Own wr (R + 1 + 1) [.slice ma mp.length mc, .slice ga mf.length gc, .slice pa ps.length pc, .slice fa fs.length fc, .int .i64 (partsTo fs mf k), .map (some (R + 1))]) (fun i wr => mf.length - (intOf i).toNat)
  case atStart => exact ⟨0, Nat.zero_le _, rfl, gW, oR, mM, oX⟩
  case round =>
    clear gW oR mM oX
    obtain ⟨k, hk, rfl, gW, oR, mM, oX⟩ := hrel
    by_cases hlt : k < mf.length
    · obtain ⟨n, f, hi, hn, hgf⟩ := HF.out.flu k hlt
      obtain ⟨p1, p2⟩ := partsTo_le HF.out (show k ≤ mf.length by omega)
      obtain ⟨p3, p4⟩ := partsTo_le HF.out (show k + 1 ≤ mf.length by omega)
      have ef := fluteAt_eq hi hn
      have p5 : partsTo fs mf (k + 1) = partsTo fs mf k * f.pitch := by show partsTo fs mf k * (fluteAt fs mf k).pitch = _; rw [ef]
      rw [p5] at p3 p4
      have P5 := Lib.hid p5
      have Hi := Lib.hid hi
      have Hn := Lib.hid hn
      clear p5 ef hi hn hgf
      obtain ⟨q0, q1, q2, q3, q4, q5⟩ := oX.1.c6
      have fz := oX.2
      have z0 := fz 4
      go_wp2
      go_region_with ((go_at_call 133; refine (flute_any _ _ _ _ _ _ _ _ _ _ _ _ _ _ _ k rfl n f Hi.out Hn.out _ (hf.grow (gW.tr (Gr.dr _))) (hg.grow (gW.tr (Gr.dr _)))).mono ?_; rintro e w1 ⟨rfl, hx⟩; have oX1 := oX.keep ((Gr.dr _).tr hx); obtain ⟨r0, r1, r2, r3, r4, r5⟩ := oX1.1.c6; have z1 := oX1.2 4))
      all_goals
        go_wp2
        go_roundw
        case rel =>
          refine ⟨k + 1, by omega, by go_num, (gW.tr ((Gr.dr _).tr hx)).setCell (by have := HR.out; show _ ≤ R + 1 + 1; omega) _, (oR.keep ((Gr.dr _).tr hx)).other (by omega), (mM.keep ((Gr.dr _).tr hx)).other (by omega), ?_⟩
          rw [P5.out]
          exact oX1.set (i := 4) (by simp)
        case measure => simp [intOf]; omega
    · obtain rfl : k = mf.length := by omega
      clear hlt hk
      change Own wr (R + 1 + 1) [_, _, _, _, .int .i64 (partsL fs mf), _] at oX
      obtain ⟨q0, q1, q2, q3, q4, q5⟩ := oX.1.c6
      obtain ⟨p1, p2⟩ := parts_bd HF.out
      go_wp2
      clear q0 q1 q2 q3 q4 q5
      go_loopw [33] (fun i wr => ∃ k : Nat, k ≤ mp.length ∧ i = .int .i64 k ∧ Gr w wr ∧ Own wr R [.slice none 0 0, .slice none 0 0, .slice none 0 0, .slice none 0 0, .int .i64 0, .map none] ∧ MapIs wr (R + 1) k (usedTo fs mp mf k) ∧
        Own wr (R + 1 + 1) [.slice ma mp.length mc, .slice ga mf.length gc, .slice pa ps.length pc, .slice fa fs.length fc, .int .i64 (partsL fs mf), .map (some (R + 1))]) (fun i wr => mp.length - (intOf i).toNat)
      case atStart => exact ⟨0, Nat.zero_le _, rfl, gW, oR, mM, oX⟩
      case round =>
        clear gW oR mM oX
        obtain ⟨k, hk, rfl, gW, oR, mM, oX⟩ := hrel
        by_cases hlt : k < mp.length
        · obtain ⟨n, p, hi, hn, hgf⟩ := HF.out.pap k hlt
          have hn8 : n < 8 := by
            have := (List.getElem?_eq_some_iff.1 hn).1
            have := HF.out.np
            omega
          obtain ⟨t1, t2⟩ := take_bd HF.out hlt
          obtain ⟨u1, u2⟩ := usedTo_bd HF.out (n : Int) k (by omega)
          have hgm := hm.grow gW
          obtain ⟨b0, off0, rfl, hb0, r0⟩ := IRow.get hgm hi
          have Hgd := Lib.hid (show mp.getD k 0 = (n : Int) by simp [hi])
          clear hi hn hgf hgm
          obtain ⟨q0, q1, q2, q3, q4, q5⟩ := oX.1.c6
          have hl0 := mM.dr.look (n : Int) (wf64 (by omega) (by omega))
          have hwr : IntKind.i64.wrap (usedTo fs mp mf k (n : Int) + takeL fs mf k) = usedTo fs mp mf k (n : Int) + takeL fs mf k := IntWalk.i64_in _ (by omega)
          go_wp2
          go_region_with ((go_at_call 134; refine (take_any ps fs mp mf HF.out _ _ _ _ _ _ _ _ _ _ k rfl hlt _ (hf.grow (gW.tr (Gr.dr _))) (hg.grow (gW.tr (Gr.dr _)))).mono ?_; rintro e w1 ⟨rfl, hx⟩; have oX1 := oX.keep ((Gr.dr _).tr hx); obtain ⟨r0, r1, r2, r3, r4, r5⟩ := oX1.1.c6; have mM1 := mM.keep ((Gr.dr _).tr hx); have hl1 := mM1.look (n : Int) (wf64 (by omega) (by omega)); obtain ⟨w2, hput, mM2, hgr⟩ := mM1.put (by omega) (n : Int) (usedTo fs mp mf k n + takeL fs mf k) (wf64 (by omega) (by omega)) (wf64 (by omega) (by omega))))
          all_goals
            clear hwr
            go_wp2
            go_roundw
            case rel =>
              refine ⟨k + 1, by omega, by go_num, (gW.tr ((Gr.dr _).tr hx)).grown hgr ((gW.tr ((Gr.dr _).tr hx)).size) (fun j e => by cases e; have := HR.out; omega), (oR.keep ((Gr.dr _).tr hx)).grown hgr (by omega), mM2.congr (by omega) (fun y => ?_), oX1.grown hgr (by omega)⟩
              show _ = if y = mp.getD k 0 then usedTo fs mp mf k y + takeL fs mf k else usedTo fs mp mf k y
              rw [Hgd.out]
              by_cases hy : y = (n : Int)
              · rw [if_pos hy, if_pos hy, hy]
              · rw [if_neg hy, if_neg hy]
            case measure => simp [intOf]; omega
        · obtain rfl : k = mp.length := by omega
          obtain ⟨q0, q1, q2, q3, q4, q5⟩ := oX.1.c6
          obtain ⟨r0, r1, r2, r3, r4, r5⟩ := oR.1.c6
          have z := oR.2
          have z0 := z 0
          have z1 := z 1
          have z2 := z 2
          have z3 := z 3
          have z4 := z 4
          have z5 := z 5
          clear z
          go_wp2
          refine bodyPost_ret (v := .agg #[.slice ma mp.length mc, .slice ga mf.length gc, .slice pa ps.length pc, .slice fa fs.length fc, .int .i64 (partsL fs mf), .map (some (R + 1))]) (by simp [results, Try.results105, go_sem, r0, r1, r2, r3, r4, r5]) rfl ⟨R + 1, rfl, ?_, ?_⟩
          · have := HR.out
            exact (((((gW.setCell (by omega) _).setCell (by omega) _).setCell (by omega) _).setCell (by omega) _).setCell (by omega) _).setCell (by omega) _
          · exact ((((((mM.other (by omega)).other (by omega)).other (by omega)).other (by omega)).other (by omega)).other (by omega)).congr (by omega) (fun _ => rfl)

end Go.Proofs.Ytcdilmagcdbogaa

namespace Go.Proofs.Ytcdilmagcdbogaa
set_option linter.unusedVariables false
set_option linter.unusedSimpArgs false
open Go.RowKit

/-- What the first k papers of the store have together. -/
def totalTo (ps : List Paper) (fs : List Flute) (mp mf : List Int) (of : Paper → Int) : Nat → Int
  | 0 => 0
  | k + 1 => totalTo ps fs mp mf of k + of (paperN ps k) * usedL fs mp mf k

def totalL (ps : List Paper) (fs : List Flute) (mp mf : List Int) (of : Paper → Int) : Int := totalTo ps fs mp mf of ps.length

theorem paperN_eq {ps : List Paper} {n : Nat} {p : Paper} (h : ps[n]? = some p) : paperN ps n = p := by
  simp [paperN, h]

theorem mul_bd {a b A B : Int} (a0 : 0 ≤ a) (a1 : a ≤ A) (b0 : 0 ≤ b) (b1 : b ≤ B) : 0 ≤ a * b ∧ a * b ≤ A * B :=
  ⟨Int.mul_nonneg a0 b0, Int.mul_le_mul a1 b1 b0 (by omega)⟩

theorem totalTo_bd {ps : List Paper} {fs : List Flute} {mp mf : List Int} (F : Fine ps fs mp mf) {of : Paper → Int} {A : Int} (hA : ∀ p, goodP p = true → 0 ≤ of p ∧ of p ≤ A) : ∀ k, k ≤ ps.length → 0 ≤ totalTo ps fs mp mf of k ∧ totalTo ps fs mp mf of k ≤ A * 1000000000 * k
  | 0, _ => by simp [totalTo]
  | k + 1, hk => by
    obtain ⟨h1, h2⟩ := totalTo_bd F hA k (by omega)
    obtain ⟨p, hp⟩ := get_of_lt (show k < ps.length by omega)
    obtain ⟨a0, a1⟩ := hA p (F.good k p hp)
    obtain ⟨u0, u1⟩ := used_bd F (k : Int)
    obtain ⟨m0, m1⟩ := mul_bd a0 a1 u0 u1
    unfold totalTo
    rw [paperN_eq hp]
    refine ⟨by omega, ?_⟩
    rw [show A * 1000000000 * ((k + 1 : Nat) : Int) = A * 1000000000 * (k : Int) + A * 1000000000 from by rw [Int.natCast_add, Int.mul_add]; simp]
    omega

theorem total_bd {ps : List Paper} {fs : List Flute} {mp mf : List Int} (F : Fine ps fs mp mf) {of : Paper → Int} {A : Int} (hA0 : 0 ≤ A) (hA : ∀ p, goodP p = true → 0 ≤ of p ∧ of p ≤ A) : 0 ≤ totalL ps fs mp mf of ∧ totalL ps fs mp mf of ≤ A * 8000000000 := by
  obtain ⟨h1, h2⟩ := totalTo_bd F hA ps.length (Nat.le_refl _)
  refine ⟨h1, Int.le_trans h2 ?_⟩
  have h3 := F.np
  rw [Int.mul_assoc]
  exact Int.mul_le_mul_of_nonneg_left (by omega) hA0

set_option maxRecDepth 100000 in
set_option maxHeartbeats 4000000 in
theorem total0 (ps : List Paper) (fs : List Flute) (mp mf : List Int) (F : Fine ps fs mp mf) (of : Paper → Int) (hA : ∀ p, goodP p = true → 0 ≤ of p ∧ of p ≤ 1000000000) (fid : FuncId) (pa fa ma ga : Option Addr) (pc fc mc gc m : Nat) (w : World)
    (hcall : ∀ (args : Array Value) (W : World), (callFunc fid args).run Try.prog W = .ok (.enter fid args) W)
    (hof : ∀ (p : Paper) (W : World), goodP p = true → Gr w W → Calls Try.prog fid #[.agg #[.int .i64 p.kind, .int .i64 p.weight, .int .i64 p.tlo, .int .i64 p.thi, .int .i64 p.mlo, .int .i64 p.mhi, .int .i64 p.price, .int .i64 p.strong]] W fun e W' => e = .returned (.int .i64 (of p)) ∧ Gr W W')
    (hp : PRow w pa ps) (hm : MapIs w m 5 (usedL fs mp mf)) :
    Calls Try.prog 139 #[.agg #[.slice ma mp.length mc, .slice ga mf.length gc, .slice pa ps.length pc, .slice fa fs.length fc, .int .i64 (partsL fs mf), .map (some m)], .func (.func fid) #[] #[]] w fun e w' =>
      e = .returned (.int .i64 (totalL ps fs mp mf of)) ∧ Gr w w' := by
  have hl1 := hp.1
  have hl8 := F.np
  have HF := Lib.hid F
  have HA := Lib.hid hA
  have Hof := Lib.hid hof
  clear hof hA
  have hb := Box.new w [.slice ma mp.length mc, .slice ga mf.length gc, .slice pa ps.length pc, .slice fa fs.length fc, .int .i64 (partsL fs mf), .map (some m)] 182 w.heap.size rfl
  have gg := Gr.al w (.cells #[.slice ma mp.length mc, .slice ga mf.length gc, .slice pa ps.length pc, .slice fa fs.length fc, .int .i64 (partsL fs mf), .map (some m)] 182)
  have HE := Lib.hid (show totalTo ps fs mp mf of ps.length = totalL ps fs mp mf of from rfl)
  go_enter Try.func139, Try.ntmps139
  go_wp2
  refine wp_abs (fun W => Gr w W ∧ Box W w.heap.size [.slice ma mp.length mc, .slice ga mf.length gc, .slice pa ps.length pc, .slice fa fs.length fc, .int .i64 (partsL fs mf), .map (some m)]) ⟨gg, hb⟩ ?_
  clear gg hb
  rintro W ⟨gW, hb⟩
  go_loopw [12, 5] (fun i s wr => ∃ k : Nat, k ≤ ps.length ∧ i = .int .i64 k ∧ s = .int .i64 (totalTo ps fs mp mf of k) ∧ Gr w wr ∧ Box wr w.heap.size [.slice ma mp.length mc, .slice ga mf.length gc, .slice pa ps.length pc, .slice fa fs.length fc, .int .i64 (partsL fs mf), .map (some m)]) (fun i s wr => ps.length - (intOf i).toNat)
  case atStart => exact ⟨0, Nat.zero_le _, rfl, rfl, gW, hb⟩
  case round =>
    clear gW hb
    obtain ⟨k, hk, rfl, rfl, gW, hb⟩ := hrel
    by_cases hlt : k < ps.length
    · obtain ⟨x, hx⟩ := get_of_lt hlt
      have hgood := HF.out.good k x hx
      obtain ⟨a0, a1⟩ := HA.out x hgood
      obtain ⟨u0, u1⟩ := used_bd HF.out (k : Int)
      obtain ⟨m0, m1⟩ := mul_bd a0 a1 u0 u1
      obtain ⟨t0, t1⟩ := totalTo_bd HF.out HA.out k (by omega)
      have hstep : totalTo ps fs mp mf of (k + 1) = totalTo ps fs mp mf of k + of x * usedL fs mp mf k := by
        show totalTo ps fs mp mf of k + of (paperN ps k) * usedL fs mp mf k = _
        rw [paperN_eq hx]
      have Hstep := Lib.hid hstep
      have Hgood := Lib.hid hgood
      obtain ⟨b0, off0, rfl, hb0, r0, r1, r2, r3, r4, r5, r6, r7⟩ := PRow.get (hp.grow gW) hx
      clear hstep hgood hx
      have gn := Gr.al wr (.cells #[.int .i64 x.kind, .int .i64 x.weight, .int .i64 x.tlo, .int .i64 x.thi, .int .i64 x.mlo, .int .i64 x.mhi, .int .i64 x.price, .int .i64 x.strong] 174)
      have ob := (Box.new wr [.int .i64 x.kind, .int .i64 x.weight, .int .i64 x.tlo, .int .i64 x.thi, .int .i64 x.mlo, .int .i64 x.mhi, .int .i64 x.price, .int .i64 x.strong] 174 wr.heap.size rfl)
      go_wp2
      refine wp_abs (fun W => Gr wr W ∧ Box W wr.heap.size [.int .i64 x.kind, .int .i64 x.weight, .int .i64 x.tlo, .int .i64 x.thi, .int .i64 x.mlo, .int .i64 x.mhi, .int .i64 x.price, .int .i64 x.strong]) ⟨gn, ob⟩ ?_
      clear gn ob
      rintro W1 ⟨gn, ob⟩
      have gd := gn.tr (Gr.dr _)
      obtain ⟨d0, d1, d2, d3, d4, d5, d6, d7⟩ := (ob.keep (Gr.dr _)).c8
      obtain ⟨q0, q1, q2, q3, q4, q5⟩ := (hb.keep gd).c6
      have hlook := (hm.keep (gW.tr gd)).look (k : Int) (wf64 (by omega) (by omega))
      have hw1 : IntKind.i64.wrap (of x * usedL fs mp mf k) = of x * usedL fs mp mf k := IntWalk.i64_in _ (by omega)
      have hw2 : IntKind.i64.wrap (totalTo ps fs mp mf of k + of x * usedL fs mp mf k) = totalTo ps fs mp mf of k + of x * usedL fs mp mf k := IntWalk.i64_in _ (by omega)
      clear a0 a1 u0 u1 m0 m1 t0 t1
      go_region_held3 (fun w' => w'.cell? ⟨wr.heap.size, 0, none⟩ = some (.int .i64 x.kind) ∧ w'.cell? ⟨wr.heap.size, 1, none⟩ = some (.int .i64 x.weight) ∧ w'.cell? ⟨wr.heap.size, 2, none⟩ = some (.int .i64 x.tlo) ∧ w'.cell? ⟨wr.heap.size, 3, none⟩ = some (.int .i64 x.thi) ∧ w'.cell? ⟨wr.heap.size, 4, none⟩ = some (.int .i64 x.mlo) ∧ w'.cell? ⟨wr.heap.size, 5, none⟩ = some (.int .i64 x.mhi) ∧ w'.cell? ⟨wr.heap.size, 6, none⟩ = some (.int .i64 x.price) ∧ w'.cell? ⟨wr.heap.size, 7, none⟩ = some (.int .i64 x.strong) ∧ w'.cell? ⟨w.heap.size, 5, none⟩ = some (.map (some m)) ∧ (Instr.lookup 180 (.map (some m)) (.int .i64 k) false).run Try.prog w' = .ok (.int .i64 (usedL fs mp mf k)) w') (first | exact ⟨d0, d1, d2, d3, d4, d5, d6, d7, q5, hlook⟩ | exact ⟨e0, e1, e2, e3, e4, e5, e6, e7, s5, hlook2⟩) (first | ((refine (Hof.out x _ Hgood.out (gW.tr gd)).mono ?_); rintro e w2 ⟨rfl, hx⟩; (obtain ⟨e0, e1, e2, e3, e4, e5, e6, e7⟩ := (ob.keep ((Gr.dr _).tr hx)).c8); (obtain ⟨s0, s1, s2, s3, s4, s5⟩ := (hb.keep (gd.tr hx)).c6); have hlook2 := (hm.keep (gW.tr (gd.tr hx))).look (k : Int) (wf64 (by omega) (by omega))))
      all_goals
        clear hw1 hw2
        go_wp2
        refine ⟨⟨k + 1, by omega, by go_num, by rw [Hstep.out], gW.tr (gd.tr hx), hb.keep (gd.tr hx)⟩, ?_⟩
        simp [intOf]
        omega
    · obtain rfl : k = ps.length := by omega
      go_wp2
      go_ret
      exact ⟨ret_int HE.out, gW⟩

set_option maxRecDepth 100000 in
set_option maxHeartbeats 4000000 in
theorem total1 (ps : List Paper) (fs : List Flute) (mp mf : List Int) (F : Fine ps fs mp mf) (of : Paper → Int) (hA : ∀ p, goodP p = true → 0 ≤ of p ∧ of p ≤ 1000000000) (fid : FuncId) (v : Value) (pa fa ma ga : Option Addr) (pc fc mc gc m : Nat) (w : World)
    (hcall : ∀ (args : Array Value) (W : World), (callFunc fid args).run Try.prog W = .ok (.enter fid args) W)
    (hof : ∀ (p : Paper) (W : World), goodP p = true → Gr w W → Calls Try.prog fid #[.agg #[.int .i64 p.kind, .int .i64 p.weight, .int .i64 p.tlo, .int .i64 p.thi, .int .i64 p.mlo, .int .i64 p.mhi, .int .i64 p.price, .int .i64 p.strong], v] W fun e W' => e = .returned (.int .i64 (of p)) ∧ Gr W W')
    (hp : PRow w pa ps) (hm : MapIs w m 5 (usedL fs mp mf)) :
    Calls Try.prog 139 #[.agg #[.slice ma mp.length mc, .slice ga mf.length gc, .slice pa ps.length pc, .slice fa fs.length fc, .int .i64 (partsL fs mf), .map (some m)], .func (.func fid) #[] #[v]] w fun e w' =>
      e = .returned (.int .i64 (totalL ps fs mp mf of)) ∧ Gr w w' := by
  have hl1 := hp.1
  have hl8 := F.np
  have HF := Lib.hid F
  have HA := Lib.hid hA
  have Hof := Lib.hid hof
  clear hof hA
  have hb := Box.new w [.slice ma mp.length mc, .slice ga mf.length gc, .slice pa ps.length pc, .slice fa fs.length fc, .int .i64 (partsL fs mf), .map (some m)] 182 w.heap.size rfl
  have gg := Gr.al w (.cells #[.slice ma mp.length mc, .slice ga mf.length gc, .slice pa ps.length pc, .slice fa fs.length fc, .int .i64 (partsL fs mf), .map (some m)] 182)
  have HE := Lib.hid (show totalTo ps fs mp mf of ps.length = totalL ps fs mp mf of from rfl)
  go_enter Try.func139, Try.ntmps139
  go_wp2
  refine wp_abs (fun W => Gr w W ∧ Box W w.heap.size [.slice ma mp.length mc, .slice ga mf.length gc, .slice pa ps.length pc, .slice fa fs.length fc, .int .i64 (partsL fs mf), .map (some m)]) ⟨gg, hb⟩ ?_
  clear gg hb
  rintro W ⟨gW, hb⟩
  go_loopw [12, 5] (fun i s wr => ∃ k : Nat, k ≤ ps.length ∧ i = .int .i64 k ∧ s = .int .i64 (totalTo ps fs mp mf of k) ∧ Gr w wr ∧ Box wr w.heap.size [.slice ma mp.length mc, .slice ga mf.length gc, .slice pa ps.length pc, .slice fa fs.length fc, .int .i64 (partsL fs mf), .map (some m)]) (fun i s wr => ps.length - (intOf i).toNat)
  case atStart => exact ⟨0, Nat.zero_le _, rfl, rfl, gW, hb⟩
  case round =>
    clear gW hb
    obtain ⟨k, hk, rfl, rfl, gW, hb⟩ := hrel
    by_cases hlt : k < ps.length
    · obtain ⟨x, hx⟩ := get_of_lt hlt
      have hgood := HF.out.good k x hx
      obtain ⟨a0, a1⟩ := HA.out x hgood
      obtain ⟨u0, u1⟩ := used_bd HF.out (k : Int)
      obtain ⟨m0, m1⟩ := mul_bd a0 a1 u0 u1
      obtain ⟨t0, t1⟩ := totalTo_bd HF.out HA.out k (by omega)
      have hstep : totalTo ps fs mp mf of (k + 1) = totalTo ps fs mp mf of k + of x * usedL fs mp mf k := by
        show totalTo ps fs mp mf of k + of (paperN ps k) * usedL fs mp mf k = _
        rw [paperN_eq hx]
      have Hstep := Lib.hid hstep
      have Hgood := Lib.hid hgood
      obtain ⟨b0, off0, rfl, hb0, r0, r1, r2, r3, r4, r5, r6, r7⟩ := PRow.get (hp.grow gW) hx
      clear hstep hgood hx
      have gn := Gr.al wr (.cells #[.int .i64 x.kind, .int .i64 x.weight, .int .i64 x.tlo, .int .i64 x.thi, .int .i64 x.mlo, .int .i64 x.mhi, .int .i64 x.price, .int .i64 x.strong] 174)
      have ob := (Box.new wr [.int .i64 x.kind, .int .i64 x.weight, .int .i64 x.tlo, .int .i64 x.thi, .int .i64 x.mlo, .int .i64 x.mhi, .int .i64 x.price, .int .i64 x.strong] 174 wr.heap.size rfl)
      go_wp2
      refine wp_abs (fun W => Gr wr W ∧ Box W wr.heap.size [.int .i64 x.kind, .int .i64 x.weight, .int .i64 x.tlo, .int .i64 x.thi, .int .i64 x.mlo, .int .i64 x.mhi, .int .i64 x.price, .int .i64 x.strong]) ⟨gn, ob⟩ ?_
      clear gn ob
      rintro W1 ⟨gn, ob⟩
      have gd := gn.tr (Gr.dr _)
      obtain ⟨d0, d1, d2, d3, d4, d5, d6, d7⟩ := (ob.keep (Gr.dr _)).c8
      obtain ⟨q0, q1, q2, q3, q4, q5⟩ := (hb.keep gd).c6
      have hlook := (hm.keep (gW.tr gd)).look (k : Int) (wf64 (by omega) (by omega))
      have hw1 : IntKind.i64.wrap (of x * usedL fs mp mf k) = of x * usedL fs mp mf k := IntWalk.i64_in _ (by omega)
      have hw2 : IntKind.i64.wrap (totalTo ps fs mp mf of k + of x * usedL fs mp mf k) = totalTo ps fs mp mf of k + of x * usedL fs mp mf k := IntWalk.i64_in _ (by omega)
      clear a0 a1 u0 u1 m0 m1 t0 t1
      go_region_held3 (fun w' => w'.cell? ⟨wr.heap.size, 0, none⟩ = some (.int .i64 x.kind) ∧ w'.cell? ⟨wr.heap.size, 1, none⟩ = some (.int .i64 x.weight) ∧ w'.cell? ⟨wr.heap.size, 2, none⟩ = some (.int .i64 x.tlo) ∧ w'.cell? ⟨wr.heap.size, 3, none⟩ = some (.int .i64 x.thi) ∧ w'.cell? ⟨wr.heap.size, 4, none⟩ = some (.int .i64 x.mlo) ∧ w'.cell? ⟨wr.heap.size, 5, none⟩ = some (.int .i64 x.mhi) ∧ w'.cell? ⟨wr.heap.size, 6, none⟩ = some (.int .i64 x.price) ∧ w'.cell? ⟨wr.heap.size, 7, none⟩ = some (.int .i64 x.strong) ∧ w'.cell? ⟨w.heap.size, 5, none⟩ = some (.map (some m)) ∧ (Instr.lookup 180 (.map (some m)) (.int .i64 k) false).run Try.prog w' = .ok (.int .i64 (usedL fs mp mf k)) w') (first | exact ⟨d0, d1, d2, d3, d4, d5, d6, d7, q5, hlook⟩ | exact ⟨e0, e1, e2, e3, e4, e5, e6, e7, s5, hlook2⟩) (first | ((refine (Hof.out x _ Hgood.out (gW.tr gd)).mono ?_); rintro e w2 ⟨rfl, hx⟩; (obtain ⟨e0, e1, e2, e3, e4, e5, e6, e7⟩ := (ob.keep ((Gr.dr _).tr hx)).c8); (obtain ⟨s0, s1, s2, s3, s4, s5⟩ := (hb.keep (gd.tr hx)).c6); have hlook2 := (hm.keep (gW.tr (gd.tr hx))).look (k : Int) (wf64 (by omega) (by omega))))
      all_goals
        clear hw1 hw2
        go_wp2
        refine ⟨⟨k + 1, by omega, by go_num, by rw [Hstep.out], gW.tr (gd.tr hx), hb.keep (gd.tr hx)⟩, ?_⟩
        simp [intOf]
        omega
    · obtain rfl : k = ps.length := by omega
      go_wp2
      go_ret
      exact ⟨ret_int HE.out, gW⟩

end Go.Proofs.Ytcdilmagcdbogaa

namespace Go.Proofs.Ytcdilmagcdbogaa
set_option linter.unusedVariables false
set_option linter.unusedSimpArgs false
open Go.RowKit

theorem call133 (args : Array Value) (W : World) : (callFunc 153 args).run Try.prog W = .ok (.enter 153 args) W := by kernel_rfl

theorem call110 (args : Array Value) (W : World) : (callFunc 135 args).run Try.prog W = .ok (.enter 135 args) W := by kernel_rfl

theorem call111 (args : Array Value) (W : World) : (callFunc 136 args).run Try.prog W = .ok (.enter 136 args) W := by kernel_rfl

theorem f110_any (a b : Int) (w : World) :
    Calls Try.prog 135 #[.agg #[.int .i64 a, .int .i64 b]] w fun e w' => e = .returned (.int .i64 a) ∧ Gr w w' := by
  have gg := Gr.al w (.cells #[.int .i64 a, .int .i64 b] 45)
  go_enter Try.func135, Try.ntmps135
  go_wp2
  go_ret
  exact ⟨rfl, gg⟩

theorem f111_any (a b : Int) (w : World) :
    Calls Try.prog 136 #[.agg #[.int .i64 a, .int .i64 b]] w fun e w' => e = .returned (.int .i64 b) ∧ Gr w w' := by
  have gg := Gr.al w (.cells #[.int .i64 a, .int .i64 b] 45)
  go_enter Try.func136, Try.ntmps136
  go_wp2
  go_ret
  exact ⟨rfl, gg⟩

/-- One end of a span: the least number, or the greatest. -/
def endOf (up : Bool) (a b : Int) : Int := if up then b else a

def endFn (up : Bool) : FuncId := if up then 136 else 135

theorem callEnd (up : Bool) (args : Array Value) (W : World) : (callFunc (endFn up) args).run Try.prog W = .ok (.enter (endFn up) args) W := by
  cases up
  · exact call110 args W
  · exact call111 args W

theorem end_any (up : Bool) (a b : Int) (w : World) :
    Calls Try.prog (endFn up) #[.agg #[.int .i64 a, .int .i64 b]] w fun e w' => e = .returned (.int .i64 (endOf up a b)) ∧ Gr w w' := by
  cases up
  · exact f110_any a b w
  · exact f111_any a b w

set_option maxRecDepth 100000 in
set_option maxHeartbeats 1000000 in
theorem f133_any (up : Bool) (p : Paper) (h : goodP p = true) (b : Nat) (w : World) (hb : w.cell? ⟨b, 0, none⟩ = some (.func (.func (endFn up)) #[] #[])) :
    Calls Try.prog 153 #[.agg #[.int .i64 p.kind, .int .i64 p.weight, .int .i64 p.tlo, .int .i64 p.thi, .int .i64 p.mlo, .int .i64 p.mhi, .int .i64 p.price, .int .i64 p.strong], .pointer (some ⟨b, 0, none⟩)] w fun e w' =>
      e = .returned (.int .i64 (p.weight * (1000 + endOf up p.mlo p.mhi))) ∧ Gr w w' := by
  have gg := Gr.al w (.cells #[.int .i64 p.kind, .int .i64 p.weight, .int .i64 p.tlo, .int .i64 p.thi, .int .i64 p.mlo, .int .i64 p.mhi, .int .i64 p.price, .int .i64 p.strong] 174)
  have ob := Box.new w [.int .i64 p.kind, .int .i64 p.weight, .int .i64 p.tlo, .int .i64 p.thi, .int .i64 p.mlo, .int .i64 p.mhi, .int .i64 p.price, .int .i64 p.strong] 174 w.heap.size rfl
  obtain ⟨_, h1, h2, _, _, _, h3, h4, h5, _⟩ := goodP_iff h
  have he : 0 ≤ endOf up p.mlo p.mhi ∧ endOf up p.mlo p.mhi ≤ 200 := by
    unfold endOf
    split <;> omega
  obtain ⟨he0, he1⟩ := he
  obtain ⟨m0, m1⟩ := mul_bd (show 0 ≤ p.weight by omega) h2 (show 0 ≤ 1000 + endOf up p.mlo p.mhi by omega) (show 1000 + endOf up p.mlo p.mhi ≤ 1200 by omega)
  have hcall := callEnd up
  go_enter Try.func153, Try.ntmps153
  go_wp2
  refine wp_abs (fun W => Gr w W ∧ Box W w.heap.size [.int .i64 p.kind, .int .i64 p.weight, .int .i64 p.tlo, .int .i64 p.thi, .int .i64 p.mlo, .int .i64 p.mhi, .int .i64 p.price, .int .i64 p.strong]) ⟨gg, ob⟩ ?_
  clear gg ob
  rintro W ⟨gg, ob⟩
  have gd := gg.tr (Gr.dr _)
  obtain ⟨d0, d1, d2, d3, d4, d5, d6, d7⟩ := (ob.keep (Gr.dr _)).c8
  have d8 := gd.keep hb
  have hw1 : IntKind.i64.wrap (1000 + endOf up p.mlo p.mhi) = 1000 + endOf up p.mlo p.mhi := IntWalk.i64_in _ (by omega)
  have hw2 : IntKind.i64.wrap (p.weight * (1000 + endOf up p.mlo p.mhi)) = p.weight * (1000 + endOf up p.mlo p.mhi) := IntWalk.i64_in _ (by omega)
  clear he0 he1 m0 m1 h1 h2 h3 h4 h5
  go_region_held3 (fun w' => w'.cell? ⟨w.heap.size, 1, none⟩ = some (.int .i64 p.weight) ∧ w'.cell? ⟨w.heap.size, 4, none⟩ = some (.int .i64 p.mlo) ∧ w'.cell? ⟨w.heap.size, 5, none⟩ = some (.int .i64 p.mhi) ∧ w'.cell? ⟨b, 0, none⟩ = some (.func (.func (endFn up)) #[] #[])) (first | exact ⟨d1, d4, d5, d8⟩ | exact ⟨e1, e4, e5, e8⟩) (first | ((refine (end_any up _ _ _).mono ?_); rintro e w2 ⟨rfl, hx⟩; (obtain ⟨e0, e1, e2, e3, e4, e5, e6, e7⟩ := (ob.keep ((Gr.dr _).tr hx)).c8); have e8 := (gd.tr hx).keep hb))
  all_goals
    go_wp2
    go_ret
    exact ⟨rfl, gd.tr hx⟩

/-- The greatest number that divides both. -/
def gcdI (num den : Int) : Int := (Nat.gcd num.toNat den.toNat : Nat)

theorem gcdI_pos {num den : Int} (hd : 1 ≤ den) : 1 ≤ gcdI num den := by
  have : 0 < Nat.gcd num.toNat den.toNat := Nat.gcd_pos_of_pos_right _ (by omega)
  unfold gcdI
  omega

end Go.Proofs.Ytcdilmagcdbogaa

namespace Go.Proofs.Ytcdilmagcdbogaa
set_option linter.unusedVariables false
set_option linter.unusedSimpArgs false
open Go.RowKit

def weightOf (p : Paper) : Int := p.weight

def strongOf (p : Paper) : Int := p.strong

def priceOf (p : Paper) : Int := p.weight * p.price

def moistOf (up : Bool) (p : Paper) : Int := p.weight * (1000 + endOf up p.mlo p.mhi)

theorem weightOf_bd (p : Paper) (h : goodP p = true) : 0 ≤ weightOf p ∧ weightOf p ≤ 1000000000 := by
  obtain ⟨_, h1, h2, _⟩ := goodP_iff h
  unfold weightOf; omega

theorem strongOf_bd (p : Paper) (h : goodP p = true) : 0 ≤ strongOf p ∧ strongOf p ≤ 1000000000 := by
  obtain ⟨_, _, _, _, _, _, _, _, _, _, _, h1, h2⟩ := goodP_iff h
  unfold strongOf; omega

theorem priceOf_bd (p : Paper) (h : goodP p = true) : 0 ≤ priceOf p ∧ priceOf p ≤ 1000000000 := by
  obtain ⟨_, h1, h2, _, _, _, _, _, _, h3, h4, _⟩ := goodP_iff h
  exact mul_bd (show 0 ≤ p.weight by omega) h2 h3 h4

theorem endOf_bd (up : Bool) (p : Paper) (h : goodP p = true) : 0 ≤ endOf up p.mlo p.mhi ∧ endOf up p.mlo p.mhi ≤ 200 := by
  obtain ⟨_, _, _, _, _, _, h3, h4, h5, _⟩ := goodP_iff h
  unfold endOf
  split <;> omega

theorem moistOf_bd (up : Bool) (p : Paper) (h : goodP p = true) : 0 ≤ moistOf up p ∧ moistOf up p ≤ 1000000000 := by
  obtain ⟨_, h1, h2, _⟩ := goodP_iff h
  obtain ⟨h3, h4⟩ := endOf_bd up p h
  have := mul_bd (show 0 ≤ p.weight by omega) h2 (show 0 ≤ 1000 + endOf up p.mlo p.mhi by omega) (show 1000 + endOf up p.mlo p.mhi ≤ 1200 by omega)
  unfold moistOf
  omega

def weightL (ps : List Paper) (fs : List Flute) (mp mf : List Int) : Int := totalL ps fs mp mf weightOf

def strongL (ps : List Paper) (fs : List Flute) (mp mf : List Int) : Int := totalL ps fs mp mf strongOf / partsL fs mf

def costL (ps : List Paper) (fs : List Flute) (mp mf : List Int) : Int := (totalL ps fs mp mf priceOf + 1000 * partsL fs mf - 1) / (1000 * partsL fs mf)

def moistL (up : Bool) (ps : List Paper) (fs : List Flute) (mp mf : List Int) : Int := totalL ps fs mp mf (moistOf up) / (1000 * partsL fs mf)

theorem totals_bd {ps : List Paper} {fs : List Flute} {mp mf : List Int} (F : Fine ps fs mp mf) {of : Paper → Int} (h : ∀ p, goodP p = true → 0 ≤ of p ∧ of p ≤ 1000000000) : 0 ≤ totalL ps fs mp mf of ∧ totalL ps fs mp mf of ≤ 8000000000000000000 :=
  total_bd F (by decide) h

theorem quo_le {t d : Int} (h0 : 0 ≤ t) (h1 : t ≤ 9223372036854775807) (hd : 1 ≤ d) : 0 ≤ t / d ∧ t / d ≤ 9223372036854775807 :=
  ⟨Int.ediv_nonneg h0 (by omega), Int.le_trans (Int.ediv_le_self _ h0) h1⟩

set_option maxRecDepth 100000 in
set_option maxHeartbeats 2000000 in
theorem moist_any (up : Bool) (ps : List Paper) (fs : List Flute) (mp mf : List Int) (F : Fine ps fs mp mf) (pa fa ma ga : Option Addr) (pc fc mc gc m : Nat) (w : World) (hp : PRow w pa ps) (hm : MapIs w m 5 (usedL fs mp mf)) :
    Calls Try.prog 137 #[.agg #[.slice ma mp.length mc, .slice ga mf.length gc, .slice pa ps.length pc, .slice fa fs.length fc, .int .i64 (partsL fs mf), .map (some m)], .func (.func (endFn up)) #[] #[]] w fun e w' => e = .returned (.int .i64 (moistL up ps fs mp mf)) ∧ Gr w w' := by
  have gg := (Gr.al w (.cells #[.slice ma mp.length mc, .slice ga mf.length gc, .slice pa ps.length pc, .slice fa fs.length fc, .int .i64 (partsL fs mf), .map (some m)] 182)).tr (Gr.al _ (.cells #[.func (.func (endFn up)) #[] #[]] 188))
  have hb := (Box.new w [.slice ma mp.length mc, .slice ga mf.length gc, .slice pa ps.length pc, .slice fa fs.length fc, .int .i64 (partsL fs mf), .map (some m)] 182 w.heap.size rfl).keep (Gr.al _ (.cells #[.func (.func (endFn up)) #[] #[]] 188))
  have ob := Box.new (w.alloc (.cells #[.slice ma mp.length mc, .slice ga mf.length gc, .slice pa ps.length pc, .slice fa fs.length fc, .int .i64 (partsL fs mf), .map (some m)] 182)) [.func (.func (endFn up)) #[] #[]] 188 (w.heap.size + 1) (by simp)
  obtain ⟨p0, p1⟩ := parts_bd F
  obtain ⟨t0, t1⟩ := totals_bd F (moistOf_bd up)
  have HF := Lib.hid F
  go_enter Try.func137, Try.ntmps137
  go_wp2
  refine wp_abs (fun W => Gr w W ∧ Box W w.heap.size [.slice ma mp.length mc, .slice ga mf.length gc, .slice pa ps.length pc, .slice fa fs.length fc, .int .i64 (partsL fs mf), .map (some m)] ∧ Box W (w.heap.size + 1) [.func (.func (endFn up)) #[] #[]]) ⟨gg, hb, ob⟩ ?_
  clear gg hb ob
  rintro W ⟨gg, hb, ob⟩
  have gd := Gr.dr W
  obtain ⟨d0, d1, d2, d3, d4, d5⟩ := (hb.keep gd).c6
  have hcl := (ob.keep gd).c1
  obtain ⟨qa, qb⟩ := quo_le t0 (by omega) (show 1 ≤ 1000 * partsL fs mf by omega)
  have hz2 : ¬ 1000 * partsL fs mf = 0 := by omega
  have hz3 : ¬ partsL fs mf = 0 := by omega
  have hd1 : (totalL ps fs mp mf (moistOf up)).tdiv (1000 * partsL fs mf) = totalL ps fs mp mf (moistOf up) / (1000 * partsL fs mf) := Int.tdiv_eq_ediv_of_nonneg t0
  have hw1 : IntKind.i64.wrap (totalL ps fs mp mf (moistOf up) / (1000 * partsL fs mf)) = totalL ps fs mp mf (moistOf up) / (1000 * partsL fs mf) := IntWalk.i64_in _ (by omega)
  have hw2 : IntKind.i64.wrap (1000 * partsL fs mf) = 1000 * partsL fs mf := IntWalk.i64_in _ (by omega)
  go_region_held3 (fun w' => w'.cell? ⟨w.heap.size, 0, none⟩ = some (.slice ma mp.length mc) ∧ w'.cell? ⟨w.heap.size, 1, none⟩ = some (.slice ga mf.length gc) ∧ w'.cell? ⟨w.heap.size, 2, none⟩ = some (.slice pa ps.length pc) ∧ w'.cell? ⟨w.heap.size, 3, none⟩ = some (.slice fa fs.length fc) ∧ w'.cell? ⟨w.heap.size, 4, none⟩ = some (.int .i64 (partsL fs mf)) ∧ w'.cell? ⟨w.heap.size, 5, none⟩ = some (.map (some m))) (first | exact ⟨d0, d1, d2, d3, d4, d5⟩ | exact ⟨e0, e1, e2, e3, e4, e5⟩ | go_keep) (first | (go_at_call 139; (refine (total1 ps fs mp mf HF.out (moistOf up) (moistOf_bd up) 153 (.pointer (some ⟨w.heap.size + 1, 0, none⟩)) _ _ _ _ _ _ _ _ _ _ call133 (fun p W h g => f133_any up p h _ W (g.keep hcl)) (hp.grow (gg.tr gd)) (hm.keep (gg.tr gd))).mono ?_); rintro e w2 ⟨rfl, hx⟩; (obtain ⟨e0, e1, e2, e3, e4, e5⟩ := (hb.keep (gd.tr hx)).c6)))
  all_goals
    clear hz2 hz3 hd1 hw1 hw2
    go_wp2
    go_ret
    exact ⟨rfl, gg.tr (gd.tr hx)⟩

end Go.Proofs.Ytcdilmagcdbogaa

namespace Go.Proofs.Ytcdilmagcdbogaa
set_option linter.unusedVariables false
set_option linter.unusedSimpArgs false
open Go.RowKit

def thickP (up : Bool) (ps : List Paper) (mp : List Int) : Nat → Int
  | 0 => 0
  | k + 1 => if kindL (k : Int) == 1 then thickP up ps mp k + endOf up (paperN ps (mp.getD k 0)).tlo (paperN ps (mp.getD k 0)).thi else thickP up ps mp k

def thickF (up : Bool) (fs : List Flute) (mf : List Int) (s : Int) : Nat → Int
  | 0 => s
  | k + 1 => thickF up fs mf s k + endOf up (fluteAt fs mf k).hlo (fluteAt fs mf k).hhi

def thickL (up : Bool) (ps : List Paper) (fs : List Flute) (mp mf : List Int) : Int := thickF up fs mf (thickP up ps mp mp.length) mf.length

theorem endT_bd (up : Bool) (p : Paper) (h : goodP p = true) : 0 ≤ endOf up p.tlo p.thi ∧ endOf up p.tlo p.thi ≤ 1000 := by
  obtain ⟨_, _, _, h3, h4, h5, _⟩ := goodP_iff h
  unfold endOf
  split <;> omega

theorem thickP_bd (up : Bool) {ps : List Paper} {fs : List Flute} {mp mf : List Int} (F : Fine ps fs mp mf) : ∀ k, k ≤ mp.length → 0 ≤ thickP up ps mp k ∧ thickP up ps mp k ≤ 1000 * k
  | 0, _ => by simp [thickP]
  | k + 1, hk => by
    obtain ⟨h1, h2⟩ := thickP_bd up F k (by omega)
    obtain ⟨n, p, hn, hp, _⟩ := F.pap k (by omega)
    obtain ⟨e1, e2⟩ := endT_bd up p (F.good n p hp)
    have e : paperN ps (mp.getD k 0) = p := by simp [hn, paperN_eq hp]
    unfold thickP
    rw [e]
    split <;> omega

theorem thickF_bd (up : Bool) {ps : List Paper} {fs : List Flute} {mp mf : List Int} (F : Fine ps fs mp mf) {s : Int} (hs : 0 ≤ s ∧ s ≤ 100000) : ∀ k, k ≤ mf.length → 0 ≤ thickF up fs mf s k ∧ thickF up fs mf s k ≤ 100000 + 10000 * k
  | 0, _ => by simpa [thickF] using hs
  | k + 1, hk => by
    obtain ⟨h1, h2⟩ := thickF_bd up F hs k (by omega)
    obtain ⟨_, _, _, _, g1, g2, g3⟩ := flute_good F (show k < mf.length by omega)
    unfold thickF
    have : 0 ≤ endOf up (fluteAt fs mf k).hlo (fluteAt fs mf k).hhi ∧ endOf up (fluteAt fs mf k).hlo (fluteAt fs mf k).hhi ≤ 10000 := by
      unfold endOf
      split <;> omega
    omega

set_option maxRecDepth 100000 in
set_option maxHeartbeats 4000000 in
theorem thick_any (up : Bool) (ps : List Paper) (fs : List Flute) (mp mf : List Int) (F : Fine ps fs mp mf) (pa fa ma ga : Option Addr) (pc fc mc gc m : Nat) (w : World) (hp : PRow w pa ps) (hf : FRow w fa fs) (ha : IRow w ma mp) (hg : IRow w ga mf) :
    Calls Try.prog 138 #[.agg #[.slice ma mp.length mc, .slice ga mf.length gc, .slice pa ps.length pc, .slice fa fs.length fc, .int .i64 (partsL fs mf), .map (some m)], .func (.func (endFn up)) #[] #[]] w fun e w' => e = .returned (.int .i64 (thickL up ps fs mp mf)) ∧ Gr w w' := by
  have gg := Gr.al w (.cells #[.slice ma mp.length mc, .slice ga mf.length gc, .slice pa ps.length pc, .slice fa fs.length fc, .int .i64 (partsL fs mf), .map (some m)] 182)
  have hb := Box.new w [.slice ma mp.length mc, .slice ga mf.length gc, .slice pa ps.length pc, .slice fa fs.length fc, .int .i64 (partsL fs mf), .map (some m)] 182 w.heap.size rfl
  have hl1 := hp.1
  have hl2 := hf.1
  have hl3 := ha.1
  have hl4 := hg.1
  have hmp := F.mpl
  have hf2 := F.f2
  have hm5 : mp.length ≤ 5 := by omega
  have Hmp := Lib.hid hmp
  have HF := Lib.hid F
  have hcall := callEnd up
  have hfi := field123_2
  clear hmp
  go_enter Try.func138, Try.ntmps138
  go_wp2
  refine wp_abs (fun W => Gr w W ∧ Box W w.heap.size [.slice ma mp.length mc, .slice ga mf.length gc, .slice pa ps.length pc, .slice fa fs.length fc, .int .i64 (partsL fs mf), .map (some m)]) ⟨gg, hb⟩ ?_
  clear gg hb
  rintro W ⟨gW, hb⟩
  go_loopw [13, 5] (fun i s wr => ∃ k : Nat, k ≤ mp.length ∧ i = .int .i64 k ∧ s = .int .i64 (thickP up ps mp k) ∧ Gr w wr ∧ Box wr w.heap.size [.slice ma mp.length mc, .slice ga mf.length gc, .slice pa ps.length pc, .slice fa fs.length fc, .int .i64 (partsL fs mf), .map (some m)]) (fun i s wr => mp.length - (intOf i).toNat)
  case atStart => exact ⟨0, Nat.zero_le _, rfl, rfl, gW, hb⟩
  case round =>
    clear gW hb
    obtain ⟨k, hk, rfl, rfl, gW, hb⟩ := hrel
    obtain ⟨t0, t1⟩ := thickP_bd up HF.out k hk
    by_cases hlt : k < mp.length
    · obtain ⟨n, x, hn, hx, _⟩ := HF.out.pap k hlt
      obtain ⟨e0, e1⟩ := endT_bd up x (HF.out.good n x hx)
      have hnl : n < ps.length := (List.getElem?_eq_some_iff.1 hx).1
      have hnI : (n : Int) < (ps.length : Int) := by omega
      have hst : thickP up ps mp (k + 1) = if kindL (k : Int) == 1 then thickP up ps mp k + endOf up x.tlo x.thi else thickP up ps mp k := by
        have e : paperN ps (mp.getD k 0) = x := by simp [hn, paperN_eq hx]
        rw [← e]; rfl
      have Hst := Lib.hid hst
      obtain ⟨b0, off0, rfl, hb0, r0⟩ := IRow.get (ha.grow gW) hn
      obtain ⟨b1, off1, rfl, hb1, s0, s1, s2, s3, s4, s5, s6, s7⟩ := PRow.get (hp.grow gW) hx
      clear hst hn hx
      obtain ⟨q0, q1, q2, q3, q4, q5⟩ := hb.c6
      cases hk1 : (kindL (k : Int) == 1) with
      | true =>
        go_wp2_with (first | (go_at_call 132; refine (kindAt_any k (by omega) _).mono ?_; rintro e w' ⟨rfl, rfl⟩) | (refine (end_any up _ _ _).mono ?_; rintro e w2 ⟨rfl, hy⟩))
        go_roundw
        case rel => exact ⟨k + 1, by omega, by go_num, by rw [Hst.out, hk1]; rfl, gW.tr hy, hb.keep hy⟩
        case measure => simp [intOf]; omega
      | false =>
        go_wp2_with (first | (go_at_call 132; refine (kindAt_any k (by omega) _).mono ?_; rintro e w' ⟨rfl, rfl⟩))
        go_roundw
        case rel => exact ⟨k + 1, by omega, by go_num, by rw [Hst.out, hk1]; rfl, gW, hb⟩
        case measure => simp [intOf]; omega
    · obtain rfl : k = mp.length := by omega
      clear hlt hk
      obtain ⟨q0, q1, q2, q3, q4, q5⟩ := hb.c6
      have hs0 : 0 ≤ thickP up ps mp mp.length ∧ thickP up ps mp mp.length ≤ 100000 := by omega
      have Hs0 := Lib.hid hs0
      clear hs0 t0 t1
      go_wp2
      clear q0 q1 q2 q3 q4 q5
      go_loopw [37, 5] (fun i s wr => ∃ k : Nat, k ≤ mf.length ∧ i = .int .i64 k ∧ s = .int .i64 (thickF up fs mf (thickP up ps mp mp.length) k) ∧ Gr w wr ∧ Box wr w.heap.size [.slice ma mp.length mc, .slice ga mf.length gc, .slice pa ps.length pc, .slice fa fs.length fc, .int .i64 (partsL fs mf), .map (some m)]) (fun i s wr => mf.length - (intOf i).toNat)
      case atStart => exact ⟨0, Nat.zero_le _, rfl, rfl, gW, hb⟩
      case round =>
        clear gW hb
        obtain ⟨k, hk, rfl, rfl, gW, hb⟩ := hrel
        obtain ⟨t0, t1⟩ := thickF_bd up HF.out Hs0.out k hk
        by_cases hlt : k < mf.length
        · obtain ⟨n, f, hi, hn, hgf⟩ := HF.out.flu k hlt
          have ef := fluteAt_eq hi hn
          obtain ⟨_, _, _, _, g1, g2, g3⟩ := goodF_iff hgf
          have he : 0 ≤ endOf up f.hlo f.hhi ∧ endOf up f.hlo f.hhi ≤ 10000 := by
            unfold endOf
            split <;> omega
          obtain ⟨he0, he1⟩ := he
          have hst : thickF up fs mf (thickP up ps mp mp.length) (k + 1) = thickF up fs mf (thickP up ps mp mp.length) k + endOf up f.hlo f.hhi := by rw [← ef]; rfl
          have Hst := Lib.hid hst
          have Hi := Lib.hid hi
          have Hn := Lib.hid hn
          clear hst hi hn ef hgf
          obtain ⟨q0, q1, q2, q3, q4, q5⟩ := hb.c6
          have hf1 := hf.grow gW
          have hg1 := hg.grow gW
          go_wp2_with (first | (go_at_call 133; refine (flute_any _ _ _ _ _ _ _ _ _ _ _ _ _ _ _ k rfl n f Hi.out Hn.out _ hf1 hg1).mono ?_; rintro e w1 ⟨rfl, hx⟩) | (refine (end_any up _ _ _).mono ?_; rintro e w2 ⟨rfl, hy⟩))
          go_roundw
          case rel => exact ⟨k + 1, by omega, by go_num, by rw [Hst.out], gW.tr (hx.tr hy), hb.keep (hx.tr hy)⟩
          case measure => simp [intOf]; omega
        · obtain rfl : k = mf.length := by omega
          go_wp2
          go_ret
          exact ⟨rfl, gW⟩

end Go.Proofs.Ytcdilmagcdbogaa

namespace Go.Proofs.Ytcdilmagcdbogaa
set_option linter.unusedVariables false
set_option linter.unusedSimpArgs false
open Go.RowKit

theorem good_paperW {k : Nat} {v : V6} (hv : B6 v) (hk : k < 5) : goodP (paperW k v) = true := by
  obtain ⟨⟨a0, a1⟩, ⟨b0, b1⟩, ⟨c0, c1⟩, ⟨d0, d1⟩, ⟨e0, e1⟩, ⟨f0, f1⟩⟩ := hv
  simp only [goodP, paperW, inB, in1, okSpan, List.all_cons, List.all_nil, Bool.and_true, Bool.and_eq_true, Bool.or_eq_true, decide_eq_true_eq, beq_iff_eq]
  refine ⟨⟨⟨⟨⟨?_, ?_⟩, ?_⟩, ?_⟩, ?_⟩, ?_⟩ <;> (try split) <;> first | omega | exact ⟨by omega, decide_eq_true (by omega)⟩

theorem good_fluteW {v : V3} (hv : B3 v) : goodF (fluteW v) = true := by
  obtain ⟨⟨a0, a1⟩, ⟨b0, b1⟩, ⟨c0, c1⟩⟩ := hv
  have p0 : 0 ≤ (1000 + 35 * v.a) * v.b := Int.mul_nonneg (by omega) b0
  have p1 : (1000 + 35 * v.a) * v.b ≤ (1000 + 35 * v.a) * 255 := Int.mul_le_mul_of_nonneg_left b1 (by omega)
  simp only [goodF, fluteW, inB, in1, okSpan, List.all_cons, List.all_nil, Bool.and_true, Bool.and_eq_true, decide_eq_true_eq]
  generalize (1000 + 35 * v.a) * v.b = p at *
  have q0 : 0 ≤ p / 255 := by omega
  have q1 : p / 255 ≤ 1000 + 35 * v.a := by omega
  refine ⟨⟨?_, ?_⟩, ?_⟩ <;> first | omega | exact ⟨by omega, decide_eq_true (by omega)⟩

theorem storeWP_good {P : List V6} (hP : ∀ v ∈ P, B6 v) : (storeWP P).all goodP = true := by
  rw [List.all_eq_true]
  intro p hp
  obtain ⟨i, hi, rfl⟩ := List.mem_map.1 hp
  have := (npW_bd P.length).2
  have hi' := List.mem_range.1 hi
  exact good_paperW (wareP_B hP (by omega)) (by omega)

theorem storeWF_good {F : List V3} (hF : ∀ v ∈ F, B3 v) : (storeWF F).all goodF = true := by
  rw [List.all_eq_true]
  intro p hp
  obtain ⟨i, hi, rfl⟩ := List.mem_map.1 hp
  exact good_fluteW (wareF_B hF i)

theorem kindRow_pos (P : List V6) (i : Nat) : 0 < (kindRow P i).length := by
  have := (npW_bd P.length).1
  unfold kindRow
  split
  · exact kindsW_pos1 P this
  · exact kindsW_pos2 P this

theorem pick_mem {L : List Int} (h : 0 < L.length) (n : Nat) : pickW L n ∈ L := by
  have hlt := Nat.mod_lt n h
  unfold pickW
  rw [List.getD_eq_getElem?_getD, List.getElem?_eq_getElem hlt]
  exact List.getElem_mem hlt

/-- What lies at a place of the board. -/
theorem makeWP_kind {P : List V6} {Y : List Int} {k : Nat} (h : k < 2 * flW Y + 1) : ∃ i : Nat, (makeWP P Y)[k]? = some (i : Int) ∧ i < npW P.length ∧ kindW P i = kindL k := by
  have hm := pick_mem (kindRow_pos P k) (byteL Y (k + 1)).toNat
  obtain ⟨i, e, hi, hk⟩ := kindsW_mem hm
  refine ⟨i, by rw [makeWP_at h, e], hi, ?_⟩
  rw [hk]
  unfold kindL
  by_cases h2 : k % 2 = 0
  · rw [if_pos h2, if_pos (by omega)]
  · rw [if_neg h2, if_neg (by omega)]

theorem ware_made {P : List V6} {F : List V3} (Y : List Int) (hP : ∀ v ∈ P, B6 v) (hF : ∀ v ∈ F, B3 v) : madeL (storeWP P) (storeWF F) (makeWP P Y) (makeWF F Y) = 0 := by
  obtain ⟨np2, np5⟩ := npW_bd P.length
  obtain ⟨nf1, nf3⟩ := nfW_bd F.length
  have lP := storeWP_len P
  have lF := storeWF_len F
  have mP := makeWP_len P Y
  have mF := makeWF_len F Y
  have hf := flW_12 Y
  have hc : checkL (storeWP P) (storeWF F) = 0 := by
    unfold checkL
    rw [storeWP_good hP, storeWF_good hF, if_neg (by omega), if_neg (by omega)]
    rfl
  have h1 : formedL (makeWP P Y) (makeWF F Y) = true := by
    unfold formedL
    rw [mP, mF]
    simp [inB, in1]
    omega
  have h2 : numberedL (makeWP P Y) (makeWF F Y) (storeWP P).length (storeWF F).length = true := by
    unfold numberedL inB
    rw [Bool.and_eq_true, List.all_eq_true, List.all_eq_true]
    constructor
    · intro x hx
      obtain ⟨k, hk⟩ := List.getElem?_of_mem hx
      have hlt := (List.getElem?_eq_some_iff.1 hk).1
      obtain ⟨i, e, hi, _⟩ := makeWP_kind (P := P) (Y := Y) (show k < 2 * flW Y + 1 by omega)
      rw [e] at hk
      cases hk
      simp [in1]
      omega
    · intro x hx
      obtain ⟨k, hk⟩ := List.getElem?_of_mem hx
      have hlt := (List.getElem?_eq_some_iff.1 hk).1
      have e := makeWF_at (F := F) (Y := Y) (show k < flW Y by omega)
      rw [e] at hk
      cases hk
      have := Nat.mod_lt (byteL Y (2 * k + 1 + 6)).toNat (show 0 < nfW F.length by omega)
      simp only [in1, Bool.and_eq_true, decide_eq_true_eq]
      omega
  have h3 : kindsOk (storeWP P) (makeWP P Y) = true := by
    refine kindsOk_true fun k hk => ?_
    obtain ⟨i, e, hi, hkk⟩ := makeWP_kind (P := P) (Y := Y) (show k < 2 * flW Y + 1 by omega)
    unfold kindOk
    rw [e]
    simp only [Int.toNat_natCast]
    rw [storeWP_at hi]
    simp only [beq_iff_eq]
    exact hkk
  unfold madeL
  rw [if_neg (by simp [hc]), if_neg (by rw [h1]; decide), if_neg (by rw [h2]; decide), if_neg (by rw [h3]; decide)]

theorem thickP_mono {ps : List Paper} {fs : List Flute} {mp mf : List Int} (F : Fine ps fs mp mf) : ∀ k, k ≤ mp.length → thickP false ps mp k ≤ thickP true ps mp k
  | 0, _ => by simp [thickP]
  | k + 1, hk => by
    have h := thickP_mono F k (by omega)
    obtain ⟨n, p, hn, hp, _⟩ := F.pap k (by omega)
    obtain ⟨_, _, _, h3, h4, h5, _⟩ := goodP_iff (F.good n p hp)
    have e : paperN ps (mp.getD k 0) = p := by simp [hn, paperN_eq hp]
    unfold thickP
    rw [e]
    unfold endOf
    split <;> simp <;> omega

theorem thickF_mono {ps : List Paper} {fs : List Flute} {mp mf : List Int} (F : Fine ps fs mp mf) {s t : Int} (hs : s ≤ t) : ∀ k, k ≤ mf.length → thickF false fs mf s k ≤ thickF true fs mf t k
  | 0, _ => by simpa [thickF] using hs
  | k + 1, hk => by
    have h := thickF_mono F hs k (by omega)
    obtain ⟨_, _, _, _, g1, g2, g3⟩ := flute_good F (show k < mf.length by omega)
    unfold thickF endOf
    simp
    omega

theorem thickF_pos {ps : List Paper} {fs : List Flute} {mp mf : List Int} (F : Fine ps fs mp mf) {s : Int} (hs : 0 ≤ s) : ∀ k : Nat, k ≤ mf.length → (k : Int) ≤ thickF false fs mf s k
  | 0, _ => by simpa [thickF] using hs
  | k + 1, hk => by
    have h := thickF_pos F hs k (by omega)
    obtain ⟨_, _, _, _, g1, g2, g3⟩ := flute_good F (show k < mf.length by omega)
    unfold thickF endOf
    simp
    omega

theorem thick_span {ps : List Paper} {fs : List Flute} {mp mf : List Int} (F : Fine ps fs mp mf) : 1 ≤ thickL false ps fs mp mf ∧ thickL false ps fs mp mf ≤ thickL true ps fs mp mf ∧ thickL true ps fs mp mf ≤ 1000000 := by
  obtain ⟨a0, a1⟩ := thickP_bd false F mp.length (Nat.le_refl _)
  obtain ⟨b0, b1⟩ := thickP_bd true F mp.length (Nat.le_refl _)
  have hm := F.mpl
  have h1 := F.f1
  have h2 := F.f2
  have p := thickF_pos F a0 mf.length (Nat.le_refl _)
  have m := thickF_mono F (thickP_mono F mp.length (Nat.le_refl _)) mf.length (Nat.le_refl _)
  obtain ⟨c0, c1⟩ := thickF_bd true F (s := thickP true ps mp mp.length) ⟨b0, by omega⟩ mf.length (Nat.le_refl _)
  unfold thickL
  omega

end Go.Proofs.Ytcdilmagcdbogaa

namespace Go.Proofs.Ytcdilmagcdbogaa
set_option linter.unusedVariables false
set_option linter.unusedSimpArgs false
open Go.RowKit

theorem take_two {ps : List Paper} {fs : List Flute} {mp mf : List Int} (F : Fine ps fs mp mf) {k : Nat} (hk : k < mp.length) : takeL fs mf k ≤ 2 * partsL fs mf := by
  obtain ⟨h1, h2⟩ := parts_bd F
  unfold takeL
  cases hk1 : (kindL (k : Int) == 1) with
  | true => simp only [if_true]; omega
  | false =>
    obtain ⟨o1, o2⟩ := kindL_odd hk1
    have hm := F.mpl
    obtain ⟨g1, g2, g3, g4, _⟩ := flute_good F (show k / 2 < mf.length by omega)
    simp only [Bool.false_eq_true, if_false]
    have q0 : 0 ≤ partsL fs mf / (fluteAt fs mf (k / 2)).pitch := Int.ediv_nonneg (by omega) (by omega)
    have q1 := Int.mul_le_mul_of_nonneg_left g4 q0
    have q2 := Int.ediv_mul_le (partsL fs mf) (show (fluteAt fs mf (k / 2)).pitch ≠ 0 by omega)
    have q3 : partsL fs mf / (fluteAt fs mf (k / 2)).pitch * (2 * (fluteAt fs mf (k / 2)).pitch) = 2 * (partsL fs mf / (fluteAt fs mf (k / 2)).pitch * (fluteAt fs mf (k / 2)).pitch) := by
      rw [Int.mul_left_comm]
    omega

/-- What the first k papers of a store have together of the first m places of a board. -/
def sumUsed (fs : List Flute) (mp mf : List Int) (m : Nat) : Nat → Int
  | 0 => 0
  | k + 1 => sumUsed fs mp mf m k + usedTo fs mp mf m k

theorem sumUsed_zero (fs : List Flute) (mp mf : List Int) : ∀ k, sumUsed fs mp mf 0 k = 0
  | 0 => rfl
  | k + 1 => by
    have := sumUsed_zero fs mp mf k
    simp [sumUsed, usedTo, this]

theorem sumUsed_succ {fs : List Flute} (mp : List Int) {mf : List Int} {m : Nat} (ht : 0 ≤ takeL fs mf m) : ∀ k : Nat, sumUsed fs mp mf (m + 1) k ≤ sumUsed fs mp mf m k + takeL fs mf m ∧ ((k : Int) ≤ mp.getD m 0 → sumUsed fs mp mf (m + 1) k ≤ sumUsed fs mp mf m k)
  | 0 => by
    simp only [sumUsed]
    exact ⟨by omega, fun _ => by omega⟩
  | k + 1 => by
    obtain ⟨h1, h2⟩ := sumUsed_succ mp ht k
    simp only [sumUsed]
    have e : usedTo fs mp mf (m + 1) (k : Int) = if (k : Int) = mp.getD m 0 then usedTo fs mp mf m (k : Int) + takeL fs mf m else usedTo fs mp mf m (k : Int) := rfl
    rw [e]
    by_cases hk : (k : Int) = mp.getD m 0
    · rw [if_pos hk]
      have h3 := h2 (by omega)
      exact ⟨by omega, fun h5 => by omega⟩
    · rw [if_neg hk]
      exact ⟨by omega, fun h5 => by have := h2 (by omega); omega⟩

theorem sumUsed_bd {ps : List Paper} {fs : List Flute} {mp mf : List Int} (F : Fine ps fs mp mf) (k : Nat) : ∀ m : Nat, m ≤ mp.length → sumUsed fs mp mf m k ≤ (m : Int) * (2 * partsL fs mf)
  | 0, _ => by rw [sumUsed_zero]; simp
  | m + 1, h => by
    have h1 := sumUsed_bd F k m (by omega)
    obtain ⟨t0, _⟩ := take_bd F (show m < mp.length by omega)
    have t1 := take_two F (show m < mp.length by omega)
    have h2 := (sumUsed_succ (fs := fs) (mf := mf) (m := m) mp (by omega) k).1
    rw [show ((m + 1 : Nat) : Int) = (m : Int) + 1 by omega, Int.add_mul, Int.one_mul]
    omega

theorem totalTo_le {ps : List Paper} {fs : List Flute} {mp mf : List Int} (F : Fine ps fs mp mf) {of : Paper → Int} {S : Int} (hS : ∀ (n : Nat) (p : Paper), ps[n]? = some p → of p ≤ S) : ∀ k, k ≤ ps.length → totalTo ps fs mp mf of k ≤ S * sumUsed fs mp mf mp.length k
  | 0, _ => by simp [totalTo, sumUsed]
  | k + 1, hk => by
    have h1 := totalTo_le F hS k (by omega)
    obtain ⟨p, hp⟩ := get_of_lt (show k < ps.length by omega)
    obtain ⟨u0, _⟩ := used_bd F (k : Int)
    have h2 := Int.mul_le_mul_of_nonneg_right (hS k p hp) u0
    unfold totalTo sumUsed
    rw [paperN_eq hp, Int.mul_add]
    exact Int.add_le_add h1 h2

theorem strong_le {ps : List Paper} {fs : List Flute} {mp mf : List Int} (F : Fine ps fs mp mf) {S : Int} (h0 : 0 ≤ S) (hS : ∀ (n : Nat) (p : Paper), ps[n]? = some p → p.strong ≤ S) : 0 ≤ strongL ps fs mp mf ∧ strongL ps fs mp mf ≤ 10 * S := by
  obtain ⟨p0, p1⟩ := parts_bd F
  obtain ⟨t0, t1⟩ := totals_bd F strongOf_bd
  have h1 : totalL ps fs mp mf strongOf ≤ S * sumUsed fs mp mf mp.length ps.length := totalTo_le F hS ps.length (Nat.le_refl _)
  have h2 := sumUsed_bd F ps.length mp.length (Nat.le_refl _)
  have hm := F.mpl
  have hf := F.f2
  have h3 : (mp.length : Int) * (2 * partsL fs mf) ≤ 5 * (2 * partsL fs mf) := Int.mul_le_mul_of_nonneg_right (by omega) (by omega)
  have h4 : S * sumUsed fs mp mf mp.length ps.length ≤ S * (10 * partsL fs mf) := Int.mul_le_mul_of_nonneg_left (by omega) h0
  refine ⟨Int.ediv_nonneg t0 (by omega), Int.ediv_le_of_le_mul (by omega) ?_⟩
  rw [Int.mul_comm 10 S, Int.mul_assoc]
  omega

/-- The strength of a board of a Ware. -/
theorem ware_strong {P : List V6} {F : List V3} (Y : List Int) (hP : ∀ v ∈ P, B6 v) (hF : ∀ v ∈ F, B3 v) : 0 ≤ strongL (storeWP P) (storeWF F) (makeWP P Y) (makeWF F Y) ∧ strongL (storeWP P) (storeWF F) (makeWP P Y) (makeWF F Y) ≤ 25500 := by
  obtain ⟨np2, np5⟩ := npW_bd P.length
  refine strong_le (S := 2550) (fine_of_made (ware_made Y hP hF)) (by decide) fun n p hp => ?_
  have hn : n < npW P.length := by
    have := (List.getElem?_eq_some_iff.1 hp).1
    rwa [storeWP_len] at this
  rw [storeWP_at hn] at hp
  cases hp
  obtain ⟨_, _, _, _, _, h1, h2⟩ := wareP_B hP (show n < 5 by omega)
  show 10 * (wareP P n).f ≤ 2550
  omega

end Go.Proofs.Ytcdilmagcdbogaa

namespace Go.Proofs.Ytcdilmagcdbogaa
set_option linter.unusedVariables false
set_option linter.unusedSimpArgs false
open Go.RowKit

theorem moistOf_mono {p : Paper} (h : goodP p = true) : 0 ≤ moistOf false p ∧ moistOf false p ≤ moistOf true p := by
  obtain ⟨_, h1, h2, h3, h4, h5, h6, h7, h8, _⟩ := goodP_iff h
  have e0 : moistOf false p = p.weight * (1000 + p.mlo) := rfl
  have e1 : moistOf true p = p.weight * (1000 + p.mhi) := rfl
  rw [e0, e1]
  exact ⟨Int.mul_nonneg (by omega) (by omega), Int.mul_le_mul_of_nonneg_left (by omega) (by omega)⟩

theorem totalTo_mono {ps : List Paper} {fs : List Flute} {mp mf : List Int} (F : Fine ps fs mp mf) : ∀ k, k ≤ ps.length → 0 ≤ totalTo ps fs mp mf (moistOf false) k ∧ totalTo ps fs mp mf (moistOf false) k ≤ totalTo ps fs mp mf (moistOf true) k
  | 0, _ => by simp [totalTo]
  | k + 1, hk => by
    obtain ⟨h1, h2⟩ := totalTo_mono F k (by omega)
    obtain ⟨p, hp⟩ := get_of_lt (show k < ps.length by omega)
    obtain ⟨u0, _⟩ := used_bd F (k : Int)
    obtain ⟨m0, m1⟩ := moistOf_mono (F.good k p hp)
    have h3 := Int.mul_le_mul_of_nonneg_right m1 u0
    have h4 := Int.mul_nonneg m0 u0
    unfold totalTo
    rw [paperN_eq hp]
    omega

theorem ware_moist {P : List V6} {F : List V3} (Y : List Int) (hP : ∀ v ∈ P, B6 v) (hF : ∀ v ∈ F, B3 v) : 0 ≤ moistL false (storeWP P) (storeWF F) (makeWP P Y) (makeWF F Y) ∧ moistL false (storeWP P) (storeWF F) (makeWP P Y) (makeWF F Y) ≤ moistL true (storeWP P) (storeWF F) (makeWP P Y) (makeWF F Y) ∧ moistL true (storeWP P) (storeWF F) (makeWP P Y) (makeWF F Y) ≤ 10000 := by
  have Fi := fine_of_made (ware_made (F := F) Y hP hF)
  obtain ⟨np2, np5⟩ := npW_bd P.length
  obtain ⟨p0, p1⟩ := parts_bd Fi
  obtain ⟨t0, t1⟩ := totalTo_mono Fi _ (Nat.le_refl _)
  have hS : ∀ (n : Nat) (p : Paper), (storeWP P)[n]? = some p → moistOf true p ≤ 1000000 := fun n p hp => by
    have hn : n < npW P.length := by
      have := (List.getElem?_eq_some_iff.1 hp).1
      rwa [storeWP_len] at this
    rw [storeWP_at hn] at hp
    cases hp
    obtain ⟨⟨a0, a1⟩, ⟨b0, b1⟩, ⟨c0, c1⟩, ⟨d0, d1⟩, _⟩ := wareP_B hP (show n < 5 by omega)
    show (50 + (wareP P n).b) * (1000 + ((wareP P n).d % 100 + (wareP P n).d / 16)) ≤ 1000000
    have h1 : (50 + (wareP P n).b) * (1000 + ((wareP P n).d % 100 + (wareP P n).d / 16)) ≤ 305 * 1114 := Int.mul_le_mul (by omega) (by omega) (by omega) (by omega)
    omega
  have h1 := totalTo_le Fi hS _ (Nat.le_refl _)
  have h2 := sumUsed_bd Fi (storeWP P).length (makeWP P Y).length (Nat.le_refl _)
  have hm := Fi.mpl
  have hf := Fi.f2
  have h3 : ((makeWP P Y).length : Int) * (2 * partsL (storeWF F) (makeWF F Y)) ≤ 5 * (2 * partsL (storeWF F) (makeWF F Y)) := Int.mul_le_mul_of_nonneg_right (by omega) (by omega)
  unfold moistL totalL
  refine ⟨Int.ediv_nonneg t0 (by omega), Int.ediv_le_ediv (by omega) t1, Int.ediv_le_of_le_mul (by omega) ?_⟩
  omega

end Go.Proofs.Ytcdilmagcdbogaa

namespace Go.Proofs.Ytcdilmagcdbogaa
set_option linter.unusedVariables false
set_option linter.unusedSimpArgs false
open Go.RowKit

set_option maxRecDepth 100000 in
set_option maxHeartbeats 4000000 in
theorem measure_any (ps : List Paper) (fs : List Flute) (mp mf : List Int) (F : Fine ps fs mp mf) (pa fa ma ga : Option Addr) (pc fc mc gc m : Nat) (w : World) (hp : PRow w pa ps) (hf : FRow w fa fs) (ha : IRow w ma mp) (hg : IRow w ga mf) (hm : MapIs w m 5 (usedL fs mp mf)) :
    Calls Try.prog 106 #[.agg #[.slice ma mp.length mc, .slice ga mf.length gc, .slice pa ps.length pc, .slice fa fs.length fc, .int .i64 (partsL fs mf), .map (some m)]] w fun e w' => e = .returned (.tuple #[.agg #[.int .i64 (moistL false ps fs mp mf), .int .i64 (moistL true ps fs mp mf)], .agg #[.int .i64 (thickL false ps fs mp mf), .int .i64 (thickL true ps fs mp mf)]]) ∧ Gr w w' := by
  have gg := ((Gr.al w (.cells #[.slice ma mp.length mc, .slice ga mf.length gc, .slice pa ps.length pc, .slice fa fs.length fc, .int .i64 (partsL fs mf), .map (some m)] 182)).tr (Gr.al _ (.cells #[.int .i64 0, .int .i64 0] 45))).tr (Gr.al _ (.cells #[.int .i64 0, .int .i64 0] 45))
  have hb := (Own.new w [.slice ma mp.length mc, .slice ga mf.length gc, .slice pa ps.length pc, .slice fa fs.length fc, .int .i64 (partsL fs mf), .map (some m)] 182 w.heap.size rfl).keep ((Gr.al _ (.cells #[.int .i64 0, .int .i64 0] 45)).tr (Gr.al _ (.cells #[.int .i64 0, .int .i64 0] 45)))
  have ob := (Own.new (w.alloc (.cells #[.slice ma mp.length mc, .slice ga mf.length gc, .slice pa ps.length pc, .slice fa fs.length fc, .int .i64 (partsL fs mf), .map (some m)] 182)) [.int .i64 0, .int .i64 0] 45 (w.heap.size + 1) (by simp)).keep (Gr.al _ (.cells #[.int .i64 0, .int .i64 0] 45))
  have oc := Own.new ((w.alloc (.cells #[.slice ma mp.length mc, .slice ga mf.length gc, .slice pa ps.length pc, .slice fa fs.length fc, .int .i64 (partsL fs mf), .map (some m)] 182)).alloc (.cells #[.int .i64 0, .int .i64 0] 45)) [.int .i64 0, .int .i64 0] 45 (w.heap.size + 1 + 1) (by simp)
  have HF := Lib.hid F
  go_enter Try.func106, Try.ntmps106
  go_wp2
  refine wp_abs (fun W => Gr w W ∧ Own W w.heap.size [.slice ma mp.length mc, .slice ga mf.length gc, .slice pa ps.length pc, .slice fa fs.length fc, .int .i64 (partsL fs mf), .map (some m)] ∧ Own W (w.heap.size + 1) [.int .i64 0, .int .i64 0] ∧ Own W (w.heap.size + 1 + 1) [.int .i64 0, .int .i64 0]) ⟨gg, hb, ob, oc⟩ ?_
  clear gg hb ob oc
  rintro W ⟨gg, hb, ob, oc⟩
  have gd := Gr.dr W
  obtain ⟨d0, d1, d2, d3, d4, d5⟩ := (hb.keep gd).1.c6
  have tok1 : True := trivial
  go_region_held3 (fun w' => w'.cell? ⟨w.heap.size, 0, none⟩ = some (.slice ma mp.length mc) ∧ w'.cell? ⟨w.heap.size, 1, none⟩ = some (.slice ga mf.length gc) ∧ w'.cell? ⟨w.heap.size, 2, none⟩ = some (.slice pa ps.length pc) ∧ w'.cell? ⟨w.heap.size, 3, none⟩ = some (.slice fa fs.length fc) ∧ w'.cell? ⟨w.heap.size, 4, none⟩ = some (.int .i64 (partsL fs mf)) ∧ w'.cell? ⟨w.heap.size, 5, none⟩ = some (.map (some m))) (first | exact ⟨d0, d1, d2, d3, d4, d5⟩ | exact ⟨e0, e1, e2, e3, e4, e5⟩ | exact ⟨f0, f1, f2, f3, f4, f5⟩ | go_keep) (first | (go_at_call 137; have _t := tok1; (refine (moist_any false ps fs mp mf HF.out _ _ _ _ _ _ _ _ _ _ (hp.grow (gg.tr gd)) (hm.keep (gg.tr gd))).mono ?_); clear tok1 _t; rintro e w2 ⟨rfl, hx⟩; (obtain ⟨e0, e1, e2, e3, e4, e5⟩ := (hb.keep (gd.tr hx)).1.c6)) | (go_at_call 137; (refine (moist_any true ps fs mp mf HF.out _ _ _ _ _ _ _ _ _ _ (hp.grow (gg.tr (gd.tr hx))) (hm.keep (gg.tr (gd.tr hx)))).mono ?_); rintro e w3 ⟨rfl, hy⟩; (obtain ⟨f0, f1, f2, f3, f4, f5⟩ := (hb.keep (gd.tr (hx.tr hy))).1.c6); have ob3 := ob.keep (gd.tr (hx.tr hy)); (obtain ⟨u0, u1⟩ := ob3.1.c2); have z0 := ob3.2 0; have z1 := ob3.2 1))
  go_wp2
  refine wp_abs (fun W => Gr w W ∧ Own W w.heap.size [.slice ma mp.length mc, .slice ga mf.length gc, .slice pa ps.length pc, .slice fa fs.length fc, .int .i64 (partsL fs mf), .map (some m)] ∧ Own W (w.heap.size + 1) [.int .i64 (moistL false ps fs mp mf), .int .i64 (moistL true ps fs mp mf)] ∧ Own W (w.heap.size + 1 + 1) [.int .i64 0, .int .i64 0])
    ⟨((gg.tr (gd.tr (hx.tr hy))).setCell (by simp) _).setCell (by simp) _, ((hb.keep (gd.tr (hx.tr hy))).other (by omega)).other (by omega), ((ob.keep (gd.tr (hx.tr hy))).set (i := 0) (by simp)).set (i := 1) (by simp), ((oc.keep (gd.tr (hx.tr hy))).other (by omega)).other (by omega)⟩ ?_
  clear d0 d1 d2 d3 d4 d5 e0 e1 e2 e3 e4 e5 f0 f1 f2 f3 f4 f5 u0 u1 z0 z1 ob3 hx hy gd gg hb ob oc
  rintro W5 ⟨gg, hb, ob, oc⟩
  have ne2 : ¬ w.heap.size + 1 + 1 = w.heap.size := by omega
  have gd := Gr.dr W5
  obtain ⟨d0, d1, d2, d3, d4, d5⟩ := (hb.keep gd).1.c6
  have tok1 : True := trivial
  go_region_held3 (fun w' => w'.cell? ⟨w.heap.size, 0, none⟩ = some (.slice ma mp.length mc) ∧ w'.cell? ⟨w.heap.size, 1, none⟩ = some (.slice ga mf.length gc) ∧ w'.cell? ⟨w.heap.size, 2, none⟩ = some (.slice pa ps.length pc) ∧ w'.cell? ⟨w.heap.size, 3, none⟩ = some (.slice fa fs.length fc) ∧ w'.cell? ⟨w.heap.size, 4, none⟩ = some (.int .i64 (partsL fs mf)) ∧ w'.cell? ⟨w.heap.size, 5, none⟩ = some (.map (some m))) (first | exact ⟨d0, d1, d2, d3, d4, d5⟩ | exact ⟨e0, e1, e2, e3, e4, e5⟩ | exact ⟨f0, f1, f2, f3, f4, f5⟩ | go_keep) (first | (go_at_call 138; have _t := tok1; (refine (thick_any false ps fs mp mf HF.out _ _ _ _ _ _ _ _ _ _ (hp.grow (gg.tr gd)) (hf.grow (gg.tr gd)) (ha.grow (gg.tr gd)) (hg.grow (gg.tr gd))).mono ?_); clear tok1 _t; rintro e w2 ⟨rfl, hx⟩; (obtain ⟨e0, e1, e2, e3, e4, e5⟩ := (hb.keep (gd.tr hx)).1.c6)) | (go_at_call 138; (refine (thick_any true ps fs mp mf HF.out _ _ _ _ _ _ _ _ _ _ (hp.grow (gg.tr (gd.tr hx))) (hf.grow (gg.tr (gd.tr hx))) (ha.grow (gg.tr (gd.tr hx))) (hg.grow (gg.tr (gd.tr hx)))).mono ?_); rintro e w3 ⟨rfl, hy⟩; (obtain ⟨f0, f1, f2, f3, f4, f5⟩ := (hb.keep (gd.tr (hx.tr hy))).1.c6); have oc3 := oc.keep (gd.tr (hx.tr hy)); (obtain ⟨u0, u1⟩ := oc3.1.c2); have z0 := oc3.2 0; have z1 := oc3.2 1))
  go_wp2
  refine wp_abs (fun W => Gr w W ∧ Own W (w.heap.size + 1) [.int .i64 (moistL false ps fs mp mf), .int .i64 (moistL true ps fs mp mf)] ∧ Own W (w.heap.size + 1 + 1) [.int .i64 (thickL false ps fs mp mf), .int .i64 (thickL true ps fs mp mf)])
    ⟨((gg.tr (gd.tr (hx.tr hy))).setCell (by simp; omega) _).setCell (by simp; omega) _, ((ob.keep (gd.tr (hx.tr hy))).other (by omega)).other (by omega), ((oc.keep (gd.tr (hx.tr hy))).set (i := 0) (by simp)).set (i := 1) (by simp)⟩ ?_
  clear d0 d1 d2 d3 d4 d5 e0 e1 e2 e3 e4 e5 f0 f1 f2 f3 f4 f5 u0 u1 z0 z1 oc3 hx hy gd gg hb ob oc
  rintro W6 ⟨gg, ob, oc⟩
  obtain ⟨a0, a1⟩ := ob.1.c2
  obtain ⟨b0, b1⟩ := oc.1.c2
  have y0 := ob.2 0
  have y1 := ob.2 1
  have y2 := oc.2 0
  have y3 := oc.2 1
  go_region
  go_wp2
  have o1 := ((((ob.set (i := 0) (v := .int .i64 (moistL false ps fs mp mf)) (by simp)).set (i := 1) (v := .int .i64 (moistL true ps fs mp mf)) (by simp)).other (b := w.heap.size + 1 + 1) (i := 0) (v := .int .i64 (thickL false ps fs mp mf)) (by omega)).other (b := w.heap.size + 1 + 1) (i := 1) (v := .int .i64 (thickL true ps fs mp mf)) (by omega)).1.c2
  have o2 := ((((oc.other (b := w.heap.size + 1) (i := 0) (v := .int .i64 (moistL false ps fs mp mf)) (by omega)).other (b := w.heap.size + 1) (i := 1) (v := .int .i64 (moistL true ps fs mp mf)) (by omega)).set (i := 0) (v := .int .i64 (thickL false ps fs mp mf)) (by simp)).set (i := 1) (v := .int .i64 (thickL true ps fs mp mf)) (by simp)).1.c2
  obtain ⟨o10, o11⟩ := o1
  obtain ⟨o20, o21⟩ := o2
  refine bodyPost_ret (v := .tuple #[.agg #[.int .i64 (moistL false ps fs mp mf), .int .i64 (moistL true ps fs mp mf)], .agg #[.int .i64 (thickL false ps fs mp mf), .int .i64 (thickL true ps fs mp mf)]]) (by simp [results, Try.results106, go_sem, o10, o11, o20, o21]) rfl ⟨rfl, ?_⟩
  exact ((((gg.setCell (by simp) _).setCell (by simp) _).setCell (by simp; omega) _).setCell (by simp; omega) _).drew

end Go.Proofs.Ytcdilmagcdbogaa

namespace Go.Proofs.Ytcdilmagcdbogaa
set_option linter.unusedVariables false
set_option linter.unusedSimpArgs false
open Go.RowKit

def weighN (ps : List Paper) (fs : List Flute) (mp mf : List Int) : Int := weightL ps fs mp mf / gcdI (weightL ps fs mp mf) (partsL fs mf)

def weighD (ps : List Paper) (fs : List Flute) (mp mf : List Int) : Int := partsL fs mf / gcdI (weightL ps fs mp mf) (partsL fs mf)

end Go.Proofs.Ytcdilmagcdbogaa

namespace Go.Proofs.Ytcdilmagcdbogaa
set_option linter.unusedVariables false
set_option linter.unusedSimpArgs false
open Go.RowKit

set_option maxRecDepth 100000 in
set_option maxHeartbeats 1000000 in
theorem measureF_err (ps : List Paper) (fs : List Flute) (mp mf : List Int) (pa fa ma ga : Option Addr) (pc fc mc gc : Nat) (w : World) (hp : PRow w pa ps) (hf : FRow w fa fs) (ha : IRow w ma mp) (hg : IRow w ga mf) (c : Int) (hc : madeL ps fs mp mf = c) (h0 : (c != 0) = true) :
    Calls Try.prog 62 #[.agg #[.slice pa ps.length pc, .slice fa fs.length fc], .agg #[.slice ma mp.length mc, .slice ga mf.length gc]] w fun e w' => e = .returned (.tuple #[.agg #[.int .i64 0, .int .i64 0], .agg #[.int .i64 0, .int .i64 0], .int .i64 c]) ∧ Gr w w' := by
  have gg := (((Gr.al w (.cells #[.slice pa ps.length pc, .slice fa fs.length fc] 124)).tr (Gr.al _ (.cells #[.slice ma mp.length mc, .slice ga mf.length gc] 127))).tr (Gr.al _ (.cells #[.int .i64 0, .int .i64 0] 45))).tr (Gr.al _ (.cells #[.int .i64 0, .int .i64 0] 45))
  have hb := (Box.new w [.slice pa ps.length pc, .slice fa fs.length fc] 124 w.heap.size rfl).keep ((Gr.al _ (.cells #[.slice ma mp.length mc, .slice ga mf.length gc] 127)).tr ((Gr.al _ (.cells #[.int .i64 0, .int .i64 0] 45)).tr (Gr.al _ (.cells #[.int .i64 0, .int .i64 0] 45))))
  have hc2 := (Box.new (w.alloc (.cells #[.slice pa ps.length pc, .slice fa fs.length fc] 124)) [.slice ma mp.length mc, .slice ga mf.length gc] 127 (w.heap.size + 1) (by simp)).keep ((Gr.al _ (.cells #[.int .i64 0, .int .i64 0] 45)).tr (Gr.al _ (.cells #[.int .i64 0, .int .i64 0] 45)))
  have ob := (Own.new ((w.alloc (.cells #[.slice pa ps.length pc, .slice fa fs.length fc] 124)).alloc (.cells #[.slice ma mp.length mc, .slice ga mf.length gc] 127)) [.int .i64 0, .int .i64 0] 45 (w.heap.size + 1 + 1) (by simp)).keep (Gr.al _ (.cells #[.int .i64 0, .int .i64 0] 45))
  have oc := Own.new (((w.alloc (.cells #[.slice pa ps.length pc, .slice fa fs.length fc] 124)).alloc (.cells #[.slice ma mp.length mc, .slice ga mf.length gc] 127)).alloc (.cells #[.int .i64 0, .int .i64 0] 45)) [.int .i64 0, .int .i64 0] 45 (w.heap.size + 1 + 1 + 1) (by simp)
  have p1 := hp.grow gg
  have p2 := hf.grow gg
  have p3 := ha.grow gg
  have p4 := hg.grow gg
  have Hc := Lib.hid hc
  clear hc hb hc2
  go_enter Try.func62, Try.ntmps62
  go_wp2_with fail
  refine (made_any ps fs mp mf _ Hc.out _ _ _ _ _ _ _ _ _ p1 p2 p3 p4).mono ?_
  rintro e w1 ⟨rfl, hx⟩
  have ob1 := ob.keep hx
  have oc1 := oc.keep hx
  obtain ⟨t0, t1⟩ := ob1.1.c2
  obtain ⟨t2, t3⟩ := oc1.1.c2
  have z0 := ob1.2 0
  have z1 := ob1.2 1
  have z2 := oc1.2 0
  have z3 := oc1.2 1
  go_wp2
  have o1 := ((((ob1.set (i := 0) (v := .int .i64 0) (by simp)).set (i := 1) (v := .int .i64 0) (by simp)).other (b := w.heap.size + 1 + 1 + 1) (i := 0) (v := .int .i64 0) (by omega)).other (b := w.heap.size + 1 + 1 + 1) (i := 1) (v := .int .i64 0) (by omega)).1.c2
  have o2 := ((((oc1.other (b := w.heap.size + 1 + 1) (i := 0) (v := .int .i64 0) (by omega)).other (b := w.heap.size + 1 + 1) (i := 1) (v := .int .i64 0) (by omega)).set (i := 0) (v := .int .i64 0) (by simp)).set (i := 1) (v := .int .i64 0) (by simp)).1.c2
  obtain ⟨o10, o11⟩ := o1
  obtain ⟨o20, o21⟩ := o2
  refine bodyPost_ret (v := .tuple #[.agg #[.int .i64 0, .int .i64 0], .agg #[.int .i64 0, .int .i64 0], .int .i64 c]) (by simp [results, Try.results62, go_sem, o10, o11, o20, o21]) rfl ⟨rfl, ?_⟩
  exact ((((gg.tr hx).setCell (by simp; omega) _).setCell (by simp; omega) _).setCell (by simp; omega) _).setCell (by simp; omega) _

set_option maxRecDepth 100000 in
set_option maxHeartbeats 2000000 in
theorem measureF_ok (ps : List Paper) (fs : List Flute) (mp mf : List Int) (pa fa ma ga : Option Addr) (pc fc mc gc : Nat) (w : World) (hp : PRow w pa ps) (hf : FRow w fa fs) (ha : IRow w ma mp) (hg : IRow w ga mf) (hc : madeL ps fs mp mf = 0) :
    Calls Try.prog 62 #[.agg #[.slice pa ps.length pc, .slice fa fs.length fc], .agg #[.slice ma mp.length mc, .slice ga mf.length gc]] w fun e w' => e = .returned (.tuple #[.agg #[.int .i64 (moistL false ps fs mp mf), .int .i64 (moistL true ps fs mp mf)], .agg #[.int .i64 (thickL false ps fs mp mf), .int .i64 (thickL true ps fs mp mf)], .int .i64 0]) ∧ Gr w w' := by
  have gg := (((Gr.al w (.cells #[.slice pa ps.length pc, .slice fa fs.length fc] 124)).tr (Gr.al _ (.cells #[.slice ma mp.length mc, .slice ga mf.length gc] 127))).tr (Gr.al _ (.cells #[.int .i64 0, .int .i64 0] 45))).tr (Gr.al _ (.cells #[.int .i64 0, .int .i64 0] 45))
  have hb := (Box.new w [.slice pa ps.length pc, .slice fa fs.length fc] 124 w.heap.size rfl).keep ((Gr.al _ (.cells #[.slice ma mp.length mc, .slice ga mf.length gc] 127)).tr ((Gr.al _ (.cells #[.int .i64 0, .int .i64 0] 45)).tr (Gr.al _ (.cells #[.int .i64 0, .int .i64 0] 45))))
  have hc2 := (Box.new (w.alloc (.cells #[.slice pa ps.length pc, .slice fa fs.length fc] 124)) [.slice ma mp.length mc, .slice ga mf.length gc] 127 (w.heap.size + 1) (by simp)).keep ((Gr.al _ (.cells #[.int .i64 0, .int .i64 0] 45)).tr (Gr.al _ (.cells #[.int .i64 0, .int .i64 0] 45)))
  have ob := (Own.new ((w.alloc (.cells #[.slice pa ps.length pc, .slice fa fs.length fc] 124)).alloc (.cells #[.slice ma mp.length mc, .slice ga mf.length gc] 127)) [.int .i64 0, .int .i64 0] 45 (w.heap.size + 1 + 1) (by simp)).keep (Gr.al _ (.cells #[.int .i64 0, .int .i64 0] 45))
  have oc := Own.new (((w.alloc (.cells #[.slice pa ps.length pc, .slice fa fs.length fc] 124)).alloc (.cells #[.slice ma mp.length mc, .slice ga mf.length gc] 127)).alloc (.cells #[.int .i64 0, .int .i64 0] 45)) [.int .i64 0, .int .i64 0] 45 (w.heap.size + 1 + 1 + 1) (by simp)
  have p1 := hp.grow gg
  have p2 := hf.grow gg
  have p3 := ha.grow gg
  have p4 := hg.grow gg
  have Hc := Lib.hid hc
  have HF := Lib.hid (fine_of_made hc)
  clear hc
  go_enter Try.func62, Try.ntmps62
  go_wp2_with fail
  refine (made_any ps fs mp mf _ Hc.out _ _ _ _ _ _ _ _ _ p1 p2 p3 p4).mono ?_
  rintro e w1 ⟨rfl, hx⟩
  obtain ⟨q0, q1⟩ := (hb.keep hx).c2
  obtain ⟨q2, q3⟩ := (hc2.keep hx).c2
  go_wp2_with fail
  refine (lay_any ps fs mp mf HF.out _ _ _ _ _ _ _ _ _ (p1.grow hx) (p2.grow hx) (p3.grow hx) (p4.grow hx)).mono ?_
  rintro e w2 ⟨m, rfl, hy, hm⟩
  go_wp2_with fail
  refine (measure_any ps fs mp mf HF.out _ _ _ _ _ _ _ _ _ _ (p1.grow (hx.tr hy)) (p2.grow (hx.tr hy)) (p3.grow (hx.tr hy)) (p4.grow (hx.tr hy)) hm).mono ?_
  rintro e w3 ⟨rfl, hz⟩
  have ob1 := ob.keep (hx.tr (hy.tr hz))
  have oc1 := oc.keep (hx.tr (hy.tr hz))
  have gx := gg.tr (hx.tr (hy.tr hz))
  obtain ⟨t0, t1⟩ := ob1.1.c2
  obtain ⟨t2, t3⟩ := oc1.1.c2
  have z0 := ob1.2 0
  have z1 := ob1.2 1
  have z2 := oc1.2 0
  have z3 := oc1.2 1
  go_wp2
  refine wp_abs (fun W => Gr w W ∧ Own W (w.heap.size + 1 + 1) [.int .i64 (moistL false ps fs mp mf), .int .i64 (moistL true ps fs mp mf)] ∧ Own W (w.heap.size + 1 + 1 + 1) [.int .i64 (thickL false ps fs mp mf), .int .i64 (thickL true ps fs mp mf)])
    ⟨(((gx.setCell (by simp; omega) _).setCell (by simp; omega) _).setCell (by simp; omega) _).setCell (by simp; omega) _, (((ob1.set (i := 0) (by simp)).set (i := 1) (by simp)).other (by omega)).other (by omega), (((oc1.other (by omega)).other (by omega)).set (i := 0) (by simp)).set (i := 1) (by simp)⟩ ?_
  clear t0 t1 t2 t3 z0 z1 z2 z3 ob oc ob1 oc1 gx gg hb hc2 p1 p2 p3 p4 hx hy hz q0 q1 q2 q3
  rintro W6 ⟨gg, ob, oc⟩
  obtain ⟨a0, a1⟩ := ob.1.c2
  obtain ⟨b0, b1⟩ := oc.1.c2
  have y0 := ob.2 0
  have y1 := ob.2 1
  have y2 := oc.2 0
  have y3 := oc.2 1
  go_region
  go_wp2
  have o1 := ((((ob.set (i := 0) (v := .int .i64 (moistL false ps fs mp mf)) (by simp)).set (i := 1) (v := .int .i64 (moistL true ps fs mp mf)) (by simp)).other (b := w.heap.size + 1 + 1 + 1) (i := 0) (v := .int .i64 (thickL false ps fs mp mf)) (by omega)).other (b := w.heap.size + 1 + 1 + 1) (i := 1) (v := .int .i64 (thickL true ps fs mp mf)) (by omega)).1.c2
  have o2 := ((((oc.other (b := w.heap.size + 1 + 1) (i := 0) (v := .int .i64 (moistL false ps fs mp mf)) (by omega)).other (b := w.heap.size + 1 + 1) (i := 1) (v := .int .i64 (moistL true ps fs mp mf)) (by omega)).set (i := 0) (v := .int .i64 (thickL false ps fs mp mf)) (by simp)).set (i := 1) (v := .int .i64 (thickL true ps fs mp mf)) (by simp)).1.c2
  obtain ⟨o10, o11⟩ := o1
  obtain ⟨o20, o21⟩ := o2
  refine bodyPost_ret (v := .tuple #[.agg #[.int .i64 (moistL false ps fs mp mf), .int .i64 (moistL true ps fs mp mf)], .agg #[.int .i64 (thickL false ps fs mp mf), .int .i64 (thickL true ps fs mp mf)], .int .i64 0]) (by simp [results, Try.results62, go_sem, o10, o11, o20, o21]) rfl ⟨rfl, ?_⟩
  exact ((((gg.setCell (by simp; omega) _).setCell (by simp; omega) _).setCell (by simp; omega) _).setCell (by simp; omega) _).drew

end Go.Proofs.Ytcdilmagcdbogaa

namespace Go.Proofs.Ytcdilmagcdbogaa
set_option linter.unusedVariables false
set_option linter.unusedSimpArgs false
open Go.RowKit

theorem call114 (args : Array Value) (W : World) : (callFunc 140 args).run Try.prog W = .ok (.enter 140 args) W := by kernel_rfl

theorem f114_any (p : Paper) (w : World) :
    Calls Try.prog 140 #[.agg #[.int .i64 p.kind, .int .i64 p.weight, .int .i64 p.tlo, .int .i64 p.thi, .int .i64 p.mlo, .int .i64 p.mhi, .int .i64 p.price, .int .i64 p.strong]] w fun e w' => e = .returned (.int .i64 p.strong) ∧ Gr w w' := by
  have gg := Gr.al w (.cells #[.int .i64 p.kind, .int .i64 p.weight, .int .i64 p.tlo, .int .i64 p.thi, .int .i64 p.mlo, .int .i64 p.mhi, .int .i64 p.price, .int .i64 p.strong] 174)
  go_enter Try.func140, Try.ntmps140
  go_wp2
  go_ret
  exact ⟨rfl, gg⟩

set_option maxRecDepth 100000 in
set_option maxHeartbeats 2000000 in
theorem strength_any (ps : List Paper) (fs : List Flute) (mp mf : List Int) (F : Fine ps fs mp mf) (pa fa ma ga : Option Addr) (pc fc mc gc m : Nat) (w : World) (hp : PRow w pa ps) (hm : MapIs w m 5 (usedL fs mp mf)) :
    Calls Try.prog 108 #[.agg #[.slice ma mp.length mc, .slice ga mf.length gc, .slice pa ps.length pc, .slice fa fs.length fc, .int .i64 (partsL fs mf), .map (some m)]] w fun e w' => e = .returned (.int .i64 (strongL ps fs mp mf)) ∧ Gr w w' := by
  have gg := Gr.al w (.cells #[.slice ma mp.length mc, .slice ga mf.length gc, .slice pa ps.length pc, .slice fa fs.length fc, .int .i64 (partsL fs mf), .map (some m)] 182)
  have hb := Box.new w [.slice ma mp.length mc, .slice ga mf.length gc, .slice pa ps.length pc, .slice fa fs.length fc, .int .i64 (partsL fs mf), .map (some m)] 182 w.heap.size rfl
  obtain ⟨p0, p1⟩ := parts_bd F
  obtain ⟨t0, t1⟩ := totals_bd F strongOf_bd
  have HF := Lib.hid F
  go_enter Try.func108, Try.ntmps108
  go_wp2
  refine wp_abs (fun W => Gr w W ∧ Box W w.heap.size [.slice ma mp.length mc, .slice ga mf.length gc, .slice pa ps.length pc, .slice fa fs.length fc, .int .i64 (partsL fs mf), .map (some m)]) ⟨gg, hb⟩ ?_
  clear gg hb
  rintro W ⟨gg, hb⟩
  have gd := Gr.dr W
  obtain ⟨d0, d1, d2, d3, d4, d5⟩ := (hb.keep gd).c6
  obtain ⟨qa, qb⟩ := quo_le t0 (by omega) p0
  have hz2 : ¬ partsL fs mf = 0 := by omega
  have hd1 : (totalL ps fs mp mf strongOf).tdiv (partsL fs mf) = totalL ps fs mp mf strongOf / partsL fs mf := Int.tdiv_eq_ediv_of_nonneg t0
  have hw1 : IntKind.i64.wrap (totalL ps fs mp mf strongOf / partsL fs mf) = totalL ps fs mp mf strongOf / partsL fs mf := IntWalk.i64_in _ (by omega)
  go_region_held3 (fun w' => w'.cell? ⟨w.heap.size, 0, none⟩ = some (.slice ma mp.length mc) ∧ w'.cell? ⟨w.heap.size, 1, none⟩ = some (.slice ga mf.length gc) ∧ w'.cell? ⟨w.heap.size, 2, none⟩ = some (.slice pa ps.length pc) ∧ w'.cell? ⟨w.heap.size, 3, none⟩ = some (.slice fa fs.length fc) ∧ w'.cell? ⟨w.heap.size, 4, none⟩ = some (.int .i64 (partsL fs mf)) ∧ w'.cell? ⟨w.heap.size, 5, none⟩ = some (.map (some m))) (first | exact ⟨d0, d1, d2, d3, d4, d5⟩ | exact ⟨e0, e1, e2, e3, e4, e5⟩ | go_keep) (first | (go_at_call 139; (refine (total0 ps fs mp mf HF.out strongOf strongOf_bd 140 _ _ _ _ _ _ _ _ _ _ call114 (fun p W _ _ => f114_any p W) (hp.grow (gg.tr gd)) (hm.keep (gg.tr gd))).mono ?_); rintro e w2 ⟨rfl, hx⟩; (obtain ⟨e0, e1, e2, e3, e4, e5⟩ := (hb.keep (gd.tr hx)).c6)))
  all_goals
    clear hz2 hd1 hw1
    go_wp2
    go_ret
    exact ⟨rfl, gg.tr (gd.tr hx)⟩

set_option maxRecDepth 100000 in
set_option maxHeartbeats 1000000 in
theorem strengthF_err (ps : List Paper) (fs : List Flute) (mp mf : List Int) (pa fa ma ga : Option Addr) (pc fc mc gc : Nat) (w : World) (hp : PRow w pa ps) (hf : FRow w fa fs) (ha : IRow w ma mp) (hg : IRow w ga mf) (c : Int) (hc : madeL ps fs mp mf = c) (h0 : (c != 0) = true) :
    Calls Try.prog 65 #[.agg #[.slice pa ps.length pc, .slice fa fs.length fc], .agg #[.slice ma mp.length mc, .slice ga mf.length gc]] w fun e w' => e = .returned (.tuple #[.int .i64 0, .int .i64 c]) ∧ Gr w w' := by
  have gg := (Gr.al w (.cells #[.slice pa ps.length pc, .slice fa fs.length fc] 124)).tr (Gr.al _ (.cells #[.slice ma mp.length mc, .slice ga mf.length gc] 127))
  have p1 := hp.grow gg
  have p2 := hf.grow gg
  have p3 := ha.grow gg
  have p4 := hg.grow gg
  have Hc := Lib.hid hc
  clear hc
  go_enter Try.func65, Try.ntmps65
  go_wp2_with (go_at_call 104; refine (made_any ps fs mp mf _ Hc.out _ _ _ _ _ _ _ _ _ p1 p2 p3 p4).mono ?_; rintro e w1 ⟨rfl, hx⟩)
  go_ret2
  exact ⟨rfl, gg.tr hx⟩

set_option maxRecDepth 100000 in
set_option maxHeartbeats 1000000 in
theorem strengthF_ok (ps : List Paper) (fs : List Flute) (mp mf : List Int) (pa fa ma ga : Option Addr) (pc fc mc gc : Nat) (w : World) (hp : PRow w pa ps) (hf : FRow w fa fs) (ha : IRow w ma mp) (hg : IRow w ga mf) (hc : madeL ps fs mp mf = 0) :
    Calls Try.prog 65 #[.agg #[.slice pa ps.length pc, .slice fa fs.length fc], .agg #[.slice ma mp.length mc, .slice ga mf.length gc]] w fun e w' => e = .returned (.tuple #[.int .i64 (strongL ps fs mp mf), .int .i64 0]) ∧ Gr w w' := by
  have gg := (Gr.al w (.cells #[.slice pa ps.length pc, .slice fa fs.length fc] 124)).tr (Gr.al _ (.cells #[.slice ma mp.length mc, .slice ga mf.length gc] 127))
  have hb := (Box.new w [.slice pa ps.length pc, .slice fa fs.length fc] 124 w.heap.size rfl).keep (Gr.al _ (.cells #[.slice ma mp.length mc, .slice ga mf.length gc] 127))
  have hc2 := Box.new (w.alloc (.cells #[.slice pa ps.length pc, .slice fa fs.length fc] 124)) [.slice ma mp.length mc, .slice ga mf.length gc] 127 (w.heap.size + 1) (by simp)
  have p1 := hp.grow gg
  have p2 := hf.grow gg
  have p3 := ha.grow gg
  have p4 := hg.grow gg
  have Hc := Lib.hid hc
  have HF := Lib.hid (fine_of_made hc)
  clear hc
  go_enter Try.func65, Try.ntmps65
  go_wp2_with fail
  refine (made_any ps fs mp mf _ Hc.out _ _ _ _ _ _ _ _ _ p1 p2 p3 p4).mono ?_
  rintro e w1 ⟨rfl, hx⟩
  obtain ⟨q0, q1⟩ := (hb.keep hx).c2
  obtain ⟨q2, q3⟩ := (hc2.keep hx).c2
  go_wp2_with fail
  refine (lay_any ps fs mp mf HF.out _ _ _ _ _ _ _ _ _ (p1.grow hx) (p2.grow hx) (p3.grow hx) (p4.grow hx)).mono ?_
  rintro e w2 ⟨m, rfl, hy, hm⟩
  go_wp2_with fail
  refine (strength_any ps fs mp mf HF.out _ _ _ _ _ _ _ _ _ _ (p1.grow (hx.tr hy)) hm).mono ?_
  rintro e w3 ⟨rfl, hz⟩
  go_wp2
  go_ret2
  exact ⟨rfl, gg.tr (hx.tr (hy.tr hz))⟩

end Go.Proofs.Ytcdilmagcdbogaa

namespace Go.Proofs.Ytcdilmagcdbogaa
set_option linter.unusedVariables false
set_option linter.unusedSimpArgs false
open Go.RowKit

end Go.Proofs.Ytcdilmagcdbogaa

namespace Go.Proofs.Ytcdilmagcdbogaa
set_option linter.unusedVariables false
set_option linter.unusedSimpArgs false
open Go.RowKit

theorem armSpan_anyT (a b : Int) (w : World) :
    Calls Try.prog 67 #[.int .i64 a, .int .i64 b] w fun e w' => e = .returned (.agg #[.int .i64 a, .int .i64 b]) ∧ Gr w w' := by
  go_enter Try.func67, Try.ntmps67
  go_wp2
  exact bodyPost_ret (v := .agg #[.int .i64 a, .int .i64 b]) (by simp [results, Try.results67, go_sem]) rfl ⟨rfl, Gr.al _ _⟩

end Go.Proofs.Ytcdilmagcdbogaa

namespace Go.Proofs.Ytcdilmagcdbogaa
set_option linter.unusedVariables false
set_option linter.unusedSimpArgs false
open Go.RowKit

theorem pubIn_any (lo hi y : Int) (l0 : 0 ≤ lo) (lh : lo ≤ hi) (h1 : hi ≤ 1000000) (y0 : 0 ≤ y) (y1 : y ≤ 255) (w : World) :
    Calls Try.prog 109 #[.agg #[.int .i64 lo, .int .i64 hi], .int .i64 y] w fun e w' => e = .returned (.int .i64 (inL lo hi y)) ∧ Gr w w' := by
  have m0 : 0 ≤ y * (hi - lo) := Int.mul_nonneg y0 (by omega)
  have m1 : y * (hi - lo) ≤ 255 * (hi - lo) := Int.mul_le_mul_of_nonneg_right y1 (by omega)
  have hb := inL_bd lh y0 y1
  have q0 : 0 ≤ y * (hi - lo) / 255 := by omega
  have q1 : y * (hi - lo) / 255 ≤ 1000000 := by omega
  go_enter Try.func109, Try.ntmps109
  go_wp2
  go_ret
  exact ⟨rfl, Gr.al _ _⟩

theorem pubByte_anyT (l : List Int) (hl : Bytes l) (i : Nat) (hi : i ≤ 1000) (a : Option Addr) (cap : Nat) (w : World) (hr : URow w a l) :
    Calls Try.prog 103 #[.slice a l.length cap, .int .i64 i] w fun e w' => e = .returned (.int .i64 (byteL l i)) ∧ w = w' := by
  have hm := hr.1
  by_cases h0 : l.length = 0
  · have e : l = [] := List.eq_nil_of_length_eq_zero h0
    subst e
    have E := Lib.hid (show byteL [] i = 0 from rfl)
    clear h0
    simp only [List.length_nil]
    go_enter Try.func103, Try.ntmps103
    go_wp2
    go_ret
    exact ⟨ret_int E.out.symm, rfl⟩
  · have hlt : i % l.length < l.length := Nat.mod_lt _ (by omega)
    obtain ⟨x, hx⟩ := get_of_lt hlt
    obtain ⟨b0, off0, rfl, hb0, hc⟩ := hr.get hx
    obtain ⟨x0, x1⟩ := hl x (List.mem_of_getElem? hx)
    have E := Lib.hid (show byteL l i = x by simp [byteL, hx])
    have hz : ((l.length : Int) == 0) = false := by rw [beq_eq_false_iff_ne]; omega
    have hz2 : ¬ (l.length : Int) = 0 := by omega
    have hi0 : (0 : Int) ≤ (i : Int) % (l.length : Int) := Int.emod_nonneg _ hz2
    have hi1 : (i : Int) % (l.length : Int) < (l.length : Int) := Int.emod_lt_of_pos _ (by omega)
    clear hx hlt h0
    go_enter Try.func103, Try.ntmps103
    go_wp2
    go_ret
    exact ⟨ret_int E.out.symm, rfl⟩

set_option maxHeartbeats 400000 in
/-- A copy of integers. -/
theorem pubInts_anyT (l : List Int) (h0 : 0 < l.length) (hl : l.length ≤ 1000) (a : Option Addr) (cap : Nat) (w : World) (hr : IRow w a l) :
    Calls Try.prog 107 #[.slice a l.length cap] w (IntsPost l w) := by
  obtain ⟨b, off, rfl, hb⟩ := hr.addr h0
  obtain ⟨i0, hi, hz0, hz1, hz2⟩ := info_parts infoInt
  have hr1 := hr.grow (Gr.al w (.cells #[] 3))
  have h1 : 0 + l.length ≤ maxLen := by unfold maxLen; omega
  have h2 : (0 + l.length) * 8 ≤ 140737488355328 := by omega
  have hfl := flat_len (enc := encI) (sz := 1) (fun _ => rfl) l
  have hnews := row_news (enc := encI) (sz := 1) (fun _ => rfl) hr1
  have Hfl := Lib.hid hfl
  have Hnews := Lib.hid hnews
  clear hfl hnews
  go_enter Try.func107, Try.ntmps107
  go_wp2_with (at_builtin; refine wpList_append_own _ rfl _ _ 24 rfl w.heap.size 3 i0 (.int .i64 0) 1 8 Try.underlying24 hi hz0 hz1 hz2 rfl (by decide) _ _ _ rfl (owns_empty w _ _) ⟨b, off, none⟩ l.length cap (l.flatMap encI) rfl Hfl.out Hnews.out (one_flat (fun x u hu => by simp [encI] at hu; subst hu; rfl) l) h1 h2 (by simp) ?_; intro v' w1 hown hgrow _)
  obtain ⟨a', cap', hv, hr2, hn2⟩ := owns_row_new (enc := encI) (l := l) (fun _ => rfl) (by omega) (by simpa using hown)
  subst hv
  have Hr2 := Lib.hid hr2
  have Hn2 := Lib.hid hn2
  clear hr2 hn2 hown
  go_wp2
  go_ret
  exact ⟨a', cap', rfl, (Gr.al w _).grown' (owns_empty w _ 1) (Nat.le_refl _) hgrow, Hr2.out, Hn2.out⟩

end Go.Proofs.Ytcdilmagcdbogaa

namespace Go.Proofs.Ytcdilmagcdbogaa
set_option linter.unusedVariables false
set_option linter.unusedSimpArgs false
open Go.RowKit

set_option maxRecDepth 100000 in
set_option maxHeartbeats 1000000 in
theorem pubMade_any (mp mf : List Int) (m0 : 0 < mp.length) (m1 : mp.length ≤ 1000) (n0 : 0 < mf.length) (n1 : mf.length ≤ 1000) (a f : Option Addr) (ac fc : Nat) (w : World) (ha : IRow w a mp) (hf : IRow w f mf) :
    Calls Try.prog 64 #[.agg #[.slice a mp.length ac, .slice f mf.length fc]] w (MadePost mp mf w) := by
  have gg := (Gr.al w (.cells #[.slice a mp.length ac, .slice f mf.length fc] 127)).tr (Gr.al _ (.cells #[.slice none 0 0, .slice none 0 0] 127))
  have hb := (Box.new w [.slice a mp.length ac, .slice f mf.length fc] 127 w.heap.size rfl).keep (Gr.al _ (.cells #[.slice none 0 0, .slice none 0 0] 127))
  have ob := Own.new (w.alloc (.cells #[.slice a mp.length ac, .slice f mf.length fc] 127)) [.slice none 0 0, .slice none 0 0] 127 (w.heap.size + 1) (by simp)
  go_enter Try.func64, Try.ntmps64
  go_wp2
  refine wp_abs (fun W => Gr w W ∧ Box W w.heap.size [.slice a mp.length ac, .slice f mf.length fc] ∧ Own W (w.heap.size + 1) [.slice none 0 0, .slice none 0 0]) ⟨gg, hb, ob⟩ ?_
  clear gg hb ob
  rintro W ⟨gg, hb, ob⟩
  have gX := Gr.dr W
  obtain ⟨q0, q1⟩ := (hb.keep gX).c2
  have tok1 : True := trivial
  go_region_held3 (fun w' => w'.cell? ⟨w.heap.size, 0, none⟩ = some (.slice a mp.length ac) ∧ w'.cell? ⟨w.heap.size, 1, none⟩ = some (.slice f mf.length fc)) (first | exact ⟨q0, q1⟩ | go_keep) (first
    | (go_at_call 107; have _t := tok1; (refine (pubInts_anyT mp m0 m1 a ac _ (ha.grow (gg.tr gX))).mono ?_); clear tok1 _t; rintro e w2 ⟨a', ac', rfl, hx, ra, na⟩; have na2 := na.le (show w.heap.size + 2 ≤ _ by have := gX.size; have := ob.1.1; omega); replace gX := gX.tr hx; obtain ⟨q0, q1⟩ := (hb.keep gX).c2)
    | (go_at_call 107; (refine (pubInts_anyT mf n0 n1 f fc _ (hf.grow (gg.tr gX))).mono ?_); rintro e w3 ⟨f', fc', rfl, hy, rf, nf⟩; have nf2 := nf.le (show w.heap.size + 2 ≤ _ by have := gX.size; have := ob.1.1; omega); replace gX := gX.tr hy; (obtain ⟨q0, q1⟩ := (hb.keep gX).c2); have ob2 := ob.keep gX; (obtain ⟨u0, u1⟩ := ob2.1.c2); have z0 := ob2.2 0; have z1 := ob2.2 1))
  all_goals
    go_wp2
    refine bodyPost_ret (v := .agg #[.slice a' mp.length ac', .slice f' mf.length fc']) (by simp [results, Try.results64, go_sem, u0, u1]) rfl ⟨a', ac', f', fc', rfl, ((gg.tr gX).setCell (by simp) _).setCell (by simp) _, ?_, ?_, na2.le (by omega), nf2.le (by omega)⟩
    · exact ((ra.grow hy).other na2 (by omega)).other na2 (by omega)
    · exact (rf.other nf2 (by omega)).other nf2 (by omega)

end Go.Proofs.Ytcdilmagcdbogaa

namespace Go.Proofs.Ytcdilmagcdbogaa
set_option linter.unusedVariables false
set_option linter.unusedSimpArgs false
open Go.RowKit

set_option maxRecDepth 100000 in
set_option maxHeartbeats 4000000 in
theorem pubOwn_any (ps : List Paper) (fs : List Flute) (m0 : 0 < ps.length) (m1 : ps.length ≤ 1000) (n0 : 0 < fs.length) (n1 : fs.length ≤ 1000) (pa fa : Option Addr) (pc fc : Nat) (w : World) (hp : PRow w pa ps) (hf : FRow w fa fs) :
    Calls Try.prog 63 #[.agg #[.slice pa ps.length pc, .slice fa fs.length fc]] w (StorePost ps fs w) := by
  obtain ⟨b1, o1, rfl, hb1⟩ := hp.addr m0
  obtain ⟨b2, o2, rfl, hb2⟩ := hf.addr n0
  obtain ⟨ip, hip, hpz0, hpz1, hpz2⟩ := info_parts infoPaper
  obtain ⟨jf, hjf, hfz0, hfz1, hfz2⟩ := info_parts infoFlute
  have gg := (Gr.al w (.cells #[.slice (some ⟨b1, o1, none⟩) ps.length pc, .slice (some ⟨b2, o2, none⟩) fs.length fc] 124)).tr (Gr.al _ (.cells #[.slice none 0 0, .slice none 0 0] 124))
  have hb := (Box.new w [.slice (some ⟨b1, o1, none⟩) ps.length pc, .slice (some ⟨b2, o2, none⟩) fs.length fc] 124 w.heap.size rfl).keep (Gr.al _ (.cells #[.slice none 0 0, .slice none 0 0] 124))
  have ob := Own.new (w.alloc (.cells #[.slice (some ⟨b1, o1, none⟩) ps.length pc, .slice (some ⟨b2, o2, none⟩) fs.length fc] 124)) [.slice none 0 0, .slice none 0 0] 124 (w.heap.size + 1) (by simp)
  go_enter Try.func63, Try.ntmps63
  go_wp2
  refine wp_abs (fun W => Gr w W ∧ Box W w.heap.size [.slice (some ⟨b1, o1, none⟩) ps.length pc, .slice (some ⟨b2, o2, none⟩) fs.length fc] ∧ Own W (w.heap.size + 1) [.slice none 0 0, .slice none 0 0]) ⟨gg, hb, ob⟩ ?_
  clear gg hb ob
  rintro W ⟨gg, hb, ob⟩
  have hW := ob.1.1
  have gX := Gr.dr W
  obtain ⟨q0, q1⟩ := (hb.keep gX).c2
  have gA := (Gr.al W (.cells #[] 174)).tr (Gr.dr _)
  have gB := ((Gr.al W (.cells #[] 174)).tr (Gr.al _ (.cells #[] 176))).tr (Gr.dr _)
  have gC := ((Gr.al W (.cells #[] 176)).tr (Gr.al _ (.cells #[] 174))).tr (Gr.dr _)
  have oA := owns_keep (owns_empty W 174 8) (Gr.dr _)
  have oB := owns_keep (owns_empty W 174 8) ((Gr.al _ (.cells #[] 176)).tr (Gr.dr _))
  have oC : (((W.alloc (.cells #[] 176)).alloc (.cells #[] 174)).drew).ownsRow W.heap.size 174 8 (.slice (some ⟨W.heap.size + 1, 0, none⟩) 0 0) 0 [] := by
    have h := owns_keep (owns_empty (W.alloc (.cells #[] 176)) 174 8) (Gr.dr _)
    rw [show (W.alloc (.cells #[] 176)).heap.size = W.heap.size + 1 by simp] at h
    exact owns_base h (by omega)
  have pB := owns_keep (owns_base (base' := W.heap.size) (owns_empty (W.alloc (.cells #[] 174)) 176 4) (by simp)) (Gr.dr _)
  rw [show (W.alloc (.cells #[] 174)).heap.size = W.heap.size + 1 by simp] at pB
  have pC := owns_keep (owns_empty W 176 4) ((Gr.al _ (.cells #[] 174)).tr (Gr.dr _))
  have hfl1 := flat_len (enc := encP) (sz := 8) (fun _ => rfl) ps
  have hfl2 := flat_len (enc := encF) (sz := 4) (fun _ => rfl) fs
  have Hfl1 := Lib.hid hfl1
  have Hfl2 := Lib.hid hfl2
  have k1 : 0 + ps.length ≤ maxLen := by unfold maxLen; omega
  have k2 : (0 + ps.length) * 64 ≤ 140737488355328 := by omega
  have k3 : 0 + fs.length ≤ maxLen := by unfold maxLen; omega
  have k4 : (0 + fs.length) * 32 ≤ 140737488355328 := by omega
  clear hfl1 hfl2
  go_region_held3 (fun w' => w'.cell? ⟨w.heap.size, 0, none⟩ = some (.slice (some ⟨b1, o1, none⟩) ps.length pc) ∧ w'.cell? ⟨w.heap.size, 1, none⟩ = some (.slice (some ⟨b2, o2, none⟩) fs.length fc)) (first | exact ⟨q0, q1⟩ | exact (hb.keep gA).c2 | exact (hb.keep gB).c2 | exact (hb.keep gC).c2 | exact (hb.keep ((Gr.al W (.cells #[] 176)).tr (Gr.dr _))).c2 | go_keep) (first
    | ((refine step_append_lies _ (by rfl) _ _ 121 (by rfl) W.heap.size 174 ip _ 8 64 Try.underlying121 hip hpz0 hpz1 hpz2 rfl (by omega) _ 0 [] (by rfl) ?_ ⟨b1, o1, none⟩ ps.length pc (ps.flatMap encP) (by rfl) Hfl1.out (row_news (enc := encP) (sz := 8) (fun _ => rfl) ?_) (one_flat oneP ps) m0 k1 k2 ?_ _ rfl ?_);
        (first | exact oA | exact oB | exact oC); (first | exact hp.grow (gg.tr gA) | exact hp.grow (gg.tr gB) | exact hp.grow (gg.tr gC)); (first | exact gA.size | exact gB.size | exact gC.size);
        intro g1 cap1 w1 hown1 hgr1 hat1 hlt1; have gY : Gr W w1 := (by first | exact gA.grown' oA (Nat.le_refl _) hgr1 | exact gB.grown' oB (Nat.le_refl _) hgr1 | exact gC.grown' oC (Nat.le_refl _) hgr1); obtain ⟨q0, q1⟩ := (hb.keep gY).c2)
    | ((refine step_append_lies _ (by rfl) _ _ 122 (by rfl) W.heap.size 176 jf _ 4 32 Try.underlying122 hjf hfz0 hfz1 hfz2 rfl (by omega) _ 0 [] (by rfl) ?_ ⟨b2, o2, none⟩ fs.length fc (fs.flatMap encF) (by rfl) Hfl2.out (row_news (enc := encF) (sz := 4) (fun _ => rfl) ?_) (one_flat oneF fs) n0 k3 k4 ?_ _ rfl ?_);
        (first | exact owns_base (owns_empty w1 _ _) gY.size | exact pB.kept hgr1 (.inr (fun e => absurd (Option.some.inj (show some (W.heap.size + 1) = some W.heap.size from e)) (by omega))) | exact pC.kept hgr1 (.inr (fun e => absurd (Option.some.inj (show some W.heap.size = some (W.heap.size + 1) from e)) (by omega))));
        (first | exact hf.grow (gg.tr gY) | exact hf.grow (gg.tr (gY.tr (Gr.al _ _)))); (first | exact gY.size | exact (gY.tr (Gr.al _ _)).size);
        intro g2 cap2 w2 hown2 hgr2 hat2 hlt2; have gZ : Gr W w2 := (by first | exact gY.grown' (pB.kept hgr1 (.inr (fun e => absurd (Option.some.inj (show some (W.heap.size + 1) = some W.heap.size from e)) (by omega)))) (Nat.le_refl _) hgr2 | exact gY.grown' (pC.kept hgr1 (.inr (fun e => absurd (Option.some.inj (show some W.heap.size = some (W.heap.size + 1) from e)) (by omega)))) (Nat.le_refl _) hgr2 | exact (gY.tr (Gr.al _ _)).grown' (owns_base (owns_empty w1 176 4) gY.size) (Nat.le_refl _) hgr2);
        (obtain ⟨q0, q1⟩ := (hb.keep gZ).c2);
        have hown1' : w2.ownsRow W.heap.size 174 8 (.slice (some ⟨g1, 0, none⟩) (0 + ps.length) cap1) (0 + ps.length) ([] ++ ps.flatMap encP) := (by first
          | exact (hown1.alloc _).kept hgr2 (.inr (fun e => Nat.ne_of_lt hlt1 (Option.some.inj (show some g1 = some w1.heap.size from e))))
          | exact hown1.kept hgr2 (.inr (fun e => ne_of_at (x := W.heap.size) (y := W.heap.size + 1) hat1 (by omega) (by simp <;> omega) (Option.some.inj (show some g1 = some (W.heap.size + 1) from e))))
          | exact hown1.kept hgr2 (.inr (fun e => ne_of_at (x := W.heap.size + 1) (y := W.heap.size) hat1 (by omega) (by simp <;> omega) (Option.some.inj (show some g1 = some W.heap.size from e)))));
        have ob2 := ob.keep gZ; (obtain ⟨u0, u1⟩ := ob2.1.c2); have z0 := ob2.2 0; have z1 := ob2.2 1))
  all_goals
    obtain ⟨a1, c1, hv1, r1, n1'⟩ := owns_row_new (enc := encP) (l := ps) (fun _ => rfl) (by omega) (by simpa using hown1')
    obtain ⟨a2, c2, hv2, r2, n2'⟩ := owns_row_new (enc := encF) (l := fs) (fun _ => rfl) (by omega) (by simpa using hown2)
    rw [hv1, hv2]
    have R1 := Lib.hid r1
    have R2 := Lib.hid r2
    have N1 := Lib.hid n1'
    have N2 := Lib.hid n2'
    clear hv1 hv2 r1 r2 n1' n2' hown1 hown1' hown2 oA oB oC pB pC hat1 hat2 hgr1 hgr2
    go_wp2
    refine bodyPost_ret (v := .agg #[.slice a1 ps.length c1, .slice a2 fs.length c2]) (by simp [results, Try.results63, go_sem, u0, u1]) rfl ⟨a1, c1, a2, c2, rfl, ((gg.tr gZ).setCell (by simp) _).setCell (by simp) _, ?_, ?_, N1.out.le (by omega), N2.out.le (by omega)⟩
    · exact (R1.out.other N1.out hW).other N1.out hW
    · exact (R2.out.other N2.out hW).other N2.out hW

end Go.Proofs.Ytcdilmagcdbogaa

namespace Go.Proofs.Ytcdilmagcdbogaa
set_option linter.unusedVariables false
set_option linter.unusedSimpArgs false
open Go.RowKit

set_option maxRecDepth 100000 in
set_option maxHeartbeats 8000000 in
theorem armStore_any (P : List V6) (F : List V3) (hP : ∀ v ∈ P, B6 v) (hF : ∀ v ∈ F, B3 v) (pa fa ya : Option Addr) (pc fc yc : Nat) (yn : Nat) (w : World) (rp : Row6 w pa P) (rf : Row3 w fa F) :
    Calls Try.prog 60 #[.agg #[.slice pa P.length pc, .slice fa F.length fc, .slice ya yn yc]] w (StorePost (storeWP P) (storeWF F) w) := by
  obtain ⟨ip, hip, hpz0, hpz1, hpz2⟩ := info_parts infoPaper
  obtain ⟨jf, hjf, hfz0, hfz1, hfz2⟩ := info_parts infoFlute
  have gg := ((Gr.al w (.cells #[.slice pa P.length pc, .slice fa F.length fc, .slice ya yn yc] 120)).tr (Gr.al _ (.cells #[.slice none 0 0, .slice none 0 0] 124))).tr (Gr.al _ (.cells #[.slice none 0 0, .slice none 0 0] 124))
  have hx := (Box.new w [.slice pa P.length pc, .slice fa F.length fc, .slice ya yn yc] 120 w.heap.size rfl).keep ((Gr.al _ (.cells #[.slice none 0 0, .slice none 0 0] 124)).tr (Gr.al _ (.cells #[.slice none 0 0, .slice none 0 0] 124)))
  have or := (Own.new (w.alloc (.cells #[.slice pa P.length pc, .slice fa F.length fc, .slice ya yn yc] 120)) [.slice none 0 0, .slice none 0 0] 124 (w.heap.size + 1) (by simp)).keep (Gr.al _ (.cells #[.slice none 0 0, .slice none 0 0] 124))
  have os := Own.new ((w.alloc (.cells #[.slice pa P.length pc, .slice fa F.length fc, .slice ya yn yc] 120)).alloc (.cells #[.slice none 0 0, .slice none 0 0] 124)) [.slice none 0 0, .slice none 0 0] 124 (w.heap.size + 1 + 1) (by simp)
  have HP := Lib.hid hP
  have HF := Lib.hid hF
  obtain ⟨np2, np5⟩ := npW_bd P.length
  obtain ⟨nf1, nf3⟩ := nfW_bd F.length
  clear hP hF
  go_enter Try.func60, Try.ntmps60
  go_wp2
  refine wp_abs (fun W => Gr w W ∧ Box W w.heap.size [.slice pa P.length pc, .slice fa F.length fc, .slice ya yn yc] ∧ Own W (w.heap.size + 1) [.slice none 0 0, .slice none 0 0] ∧ Own W (w.heap.size + 1 + 1) [.slice none 0 0, .slice none 0 0]) ⟨gg, hx, or, os⟩ ?_
  clear gg hx or os
  rintro W ⟨gg, hx, or, os⟩
  refine (show (∀ s : Nat → Value, Code.wp Try.prog _ _ ⟨#[s 0, .pointer (some ⟨w.heap.size, 0, none⟩), .pointer (some ⟨(w.heap.size + 1), 0, none⟩), .pointer (some ⟨(w.heap.size + 1 + 1), 0, none⟩), .int .i64 0, undef, undef, undef, undef, undef, s 10, undef, undef, undef, undef, undef, undef, undef, undef, undef, undef, undef, undef, undef, undef, undef, undef, undef, undef, undef, undef, undef, undef, undef, undef, undef, undef, undef, undef, undef, undef, undef, undef, undef, undef, undef, undef, undef, undef, undef, undef, undef, undef, undef, undef, undef, undef, undef, undef, undef, undef, undef, undef, undef, undef, undef, undef, undef, undef, undef, undef, undef, undef, undef, undef, undef, undef, undef, undef, undef, undef, undef, undef, undef, undef, undef, undef, undef, undef, undef, undef, undef, undef, undef, undef, undef, undef, undef, undef, undef, undef, undef, undef, undef, undef, undef, undef, undef, undef, undef, undef, undef, undef, undef, undef, undef, undef, undef, undef, undef, undef, undef, undef, undef, undef, undef, undef, undef, undef, undef, undef, undef, undef, undef, undef, undef, undef, undef, undef, undef, undef, undef, undef, undef, undef, undef, undef, undef, undef, undef, undef, undef, undef, undef, undef, undef, undef, undef, undef], []⟩ _) → _ from fun h => h ((fun l : List Value => fun i => l.getD i undef) [_, undef, undef, undef, undef, undef, undef, undef, undef, undef, _])) ?_
  intro s
  dsimp only
  go_loopw [4] (fun i wr => Hid (∃ (k : Nat) (pv : Value), k ≤ npW P.length ∧ i = .int .i64 k ∧ Gr w wr ∧ Box wr w.heap.size [.slice pa P.length pc, .slice fa F.length fc, .slice ya yn yc] ∧ Own wr (w.heap.size + 1) [.slice none 0 0, .slice none 0 0] ∧ Own wr (w.heap.size + 1 + 1) [pv, .slice none 0 0] ∧
      wr.ownsRow (w.heap.size + 1 + 1 + 1) 174 8 pv k (((storeWP P).take k).flatMap encP))) (fun i wr => 5 - (intOf i).toNat)
  case atStart => exact Lib.hid ⟨0, .slice none 0 0, by omega, rfl, gg, hx, or, os, World.ownsRow_nil _ _ _ _⟩
  case round =>
    clear gg hx or os
    obtain ⟨k, pv, hk, rfl, gg, hx, or, os, hown⟩ := hrel.out
    clear hrel
    by_cases hlt : k < npW P.length
    · have k5 : k < 5 := by omega
      have hsz : w.heap.size + 1 + 1 < wr.heap.size := os.1.1
      go_upto_region 3 with fail
      go_cut [23] from 11 to 22 (fun s23 wx => s23 = .bool true ∧ wr = wx)
      case first =>
        have q0 := hx.2 0 _ rfl
        by_cases h2 : k < 2
        · have d1 : decide ((k : Int) < 2) = true := by simp; omega
          go_wp2_with fail
          go_meet
          exact ⟨rfl, rfl⟩
        · have d1 : decide ((k : Int) < 2) = false := by simp; omega
          have hl : k < P.length := by unfold npW at hlt; split at hlt <;> (try split at hlt) <;> omega
          have d2 : decide (k < P.length) = true := by simpa using hl
          have d3 : decide ((k : Int) < 5) = true := by simp; omega
          go_wp2_with fail
          go_meet
          exact ⟨rfl, rfl⟩
      case rest =>
        obtain ⟨rfl, rfl⟩ := hcut
        have hw8 := u8_small k5
        have q0 := hx.2 0 _ rfl
        have q0' := (hx.keep (Gr.al wr (.cells #[.int .u8 (k : Int), .int .u8 120, .int .u8 20, .int .u8 7, .int .u8 30, .int .u8 20] 136))).2 0 _ rfl
        go_upto_if 33 with fail
        go_cut [] from 34 to 38 (fun wx => Gr wr wx ∧ Own wx wr.heap.size (encV6 (wareP P k)))
        case first =>
          by_cases hl : k < P.length
          · obtain ⟨v, hv⟩ := get_of_lt hl
            have E : wareP P k = v := by simp [wareP, hv]
            have E' := Lib.hid E
            clear E
            obtain ⟨b0, o0, ha, hb0, hc⟩ := (rp.grow (gg.tr (Gr.al wr (.cells #[.int .u8 (k : Int), .int .u8 120, .int .u8 20, .int .u8 7, .int .u8 30, .int .u8 20] 136)))).2 k v hv
            subst ha
            clear hv
            obtain ⟨v0, v1, v2, v3, v4, v5⟩ := v
            have c0 : (wr.alloc (.cells #[.int .u8 (k : Int), .int .u8 120, .int .u8 20, .int .u8 7, .int .u8 30, .int .u8 20] 136)).cell? ⟨b0, o0 + k * 6, none⟩ = some (.int .u8 v0) := hc 0 _ rfl
            have c1 : (wr.alloc (.cells #[.int .u8 (k : Int), .int .u8 120, .int .u8 20, .int .u8 7, .int .u8 30, .int .u8 20] 136)).cell? ⟨b0, o0 + k * 6 + 1, none⟩ = some (.int .u8 v1) := hc 1 _ rfl
            have c2 : (wr.alloc (.cells #[.int .u8 (k : Int), .int .u8 120, .int .u8 20, .int .u8 7, .int .u8 30, .int .u8 20] 136)).cell? ⟨b0, o0 + k * 6 + 2, none⟩ = some (.int .u8 v2) := hc 2 _ rfl
            have c3 : (wr.alloc (.cells #[.int .u8 (k : Int), .int .u8 120, .int .u8 20, .int .u8 7, .int .u8 30, .int .u8 20] 136)).cell? ⟨b0, o0 + k * 6 + 3, none⟩ = some (.int .u8 v3) := hc 3 _ rfl
            have c4 : (wr.alloc (.cells #[.int .u8 (k : Int), .int .u8 120, .int .u8 20, .int .u8 7, .int .u8 30, .int .u8 20] 136)).cell? ⟨b0, o0 + k * 6 + 4, none⟩ = some (.int .u8 v4) := hc 4 _ rfl
            have c5 : (wr.alloc (.cells #[.int .u8 (k : Int), .int .u8 120, .int .u8 20, .int .u8 7, .int .u8 30, .int .u8 20] 136)).cell? ⟨b0, o0 + k * 6 + 5, none⟩ = some (.int .u8 v5) := hc 5 _ rfl
            clear hc
            have d2 : decide (k < P.length) = true := by simpa using hl
            go_wp2_with fail
            go_meet
            refine ⟨Gr.al _ _, ?_⟩
            rw [E'.out]
            exact Own.new _ [.int .u8 v0, .int .u8 v1, .int .u8 v2, .int .u8 v3, .int .u8 v4, .int .u8 v5] _ _ rfl
          · have E : wareP P k = ⟨k, 120, 20, 7, 30, 20⟩ := by simp [wareP, List.getElem?_eq_none (show P.length ≤ k by omega)]
            have E' := Lib.hid E
            clear E
            have d2 : decide (k < P.length) = false := by simpa using hl
            go_wp2_with fail
            go_meet
            refine ⟨Gr.al _ _, ?_⟩
            rw [E'.out]
            exact Own.new _ [.int .u8 (k : Int), .int .u8 120, .int .u8 20, .int .u8 7, .int .u8 30, .int .u8 20] _ _ rfl
        case rest =>
          obtain ⟨gn, ov⟩ := hcut
          clear q0 q0' hw8
          have hpk := storeWP_at hlt
          obtain ⟨⟨p0, p1⟩, ⟨p2, p3⟩, ⟨p4, p5⟩, ⟨p6, p7⟩, ⟨p8, p9⟩, ⟨p10, p11⟩⟩ := wareP_B HP.out k5
          generalize wareP P k = vv at *
          obtain ⟨y0, y1, y2, y3, y4, y5⟩ := vv
          simp only at p0 p1 p2 p3 p4 p5 p6 p7 p8 p9 p10 p11
          have HPK := Lib.hid hpk
          clear hpk
          go_upto_region 8 with fail
          refine (show (∀ r : Nat → Value, Code.wp Try.prog _ _ ⟨#[s 0, .pointer (some ⟨w.heap.size, 0, none⟩), .pointer (some ⟨(w.heap.size + 1), 0, none⟩), .pointer (some ⟨(w.heap.size + 1 + 1), 0, none⟩), .int .i64 k, .pointer (some ⟨wr.heap.size, 0, none⟩), r 6, undef, undef, undef, s 10, r 11, r 12, r 13, r 14, r 15, r 16, r 17, r 18, r 19, r 20, r 21, r 22, r 23, r 24, r 25, r 26, r 27, r 28, r 29, r 30, r 31, r 32, r 33, r 34, r 35, r 36, r 37, r 38, r 39, r 40, r 41, r 42, r 43, r 44, r 45, r 46, r 47, r 48, r 49, r 50, r 51, r 52, r 53, r 54, r 55, r 56, r 57, r 58, r 59, r 60, r 61, r 62, r 63, r 64, r 65, r 66, r 67, r 68, r 69, r 70, r 71, r 72, r 73, r 74, r 75, r 76, r 77, r 78, r 79, r 80, r 81, r 82, r 83, r 84, r 85, r 86, r 87, r 88, r 89, r 90, r 91, r 92, r 93, r 94, r 95, undef, undef, undef, undef, undef, undef, undef, undef, undef, undef, undef, undef, undef, undef, undef, undef, undef, undef, undef, undef, undef, undef, undef, undef, undef, undef, undef, undef, undef, undef, undef, undef, undef, undef, undef, undef, undef, undef, undef, undef, undef, undef, undef, undef, undef, undef, undef, undef, undef, undef, undef, undef, undef, undef, undef, undef, undef, undef, undef, undef, undef, undef, undef], []⟩ _) → _ from fun h => h ((fun l : List Value => fun i => l.getD i undef) [undef, undef, undef, undef, undef, undef, _, undef, undef, undef, undef, _, _, _, _, _, _, _, _, _, _, _, _, _, _, _, _, _, _, _, _, _, _, _, _, _, _, _, _, _, _, _, _, _, _, _, _, _, _, _, _, _, _, _, _, _, _, _, _, _, _, _, _, _, _, _, _, _, _, _, _, _, _, _, _, _, _, _, _, _, _, _, _, _, _, _, _, _, _, _, _, _, _, _, _, _])) ?_
          intro r
          dsimp only
          have w0 : IntKind.i64.wrap (1 + (k : Int)) = 1 + (k : Int) := IntWalk.i64_in _ (by omega)
          have w1 : IntKind.i64.wrap (y1) = y1 := IntWalk.i64_in _ (by omega)
          have w2 : IntKind.i64.wrap (50 + y1) = 50 + y1 := IntWalk.i64_in _ (by omega)
          have w3 : IntKind.i64.wrap (y2) = y2 := IntWalk.i64_in _ (by omega)
          have w4 : IntKind.i64.wrap (50 + y2) = 50 + y2 := IntWalk.i64_in _ (by omega)
          have w5 : IntKind.i64.wrap (y0) = y0 := IntWalk.i64_in _ (by omega)
          have w6 : y0.tdiv 8 = y0 / 8 := Int.tdiv_eq_ediv_of_nonneg (by omega)
          have w7 : IntKind.i64.wrap (y0 / 8) = y0 / 8 := IntWalk.i64_in _ (by omega)
          have w8 : IntKind.i64.wrap ((50 + y2) + (y0 / 8)) = (50 + y2) + (y0 / 8) := IntWalk.i64_in _ (by omega)
          have w9 : IntKind.i64.wrap (y3) = y3 := IntWalk.i64_in _ (by omega)
          have w10 : y3.tmod 100 = y3 % 100 := Int.tmod_eq_emod_of_nonneg (by omega)
          have w11 : y3.tmod 100 = y3 % 100 := Int.tmod_eq_emod_of_nonneg (by omega)
          have w12 : y3.tdiv 16 = y3 / 16 := Int.tdiv_eq_ediv_of_nonneg (by omega)
          have w13 : IntKind.i64.wrap (y3 / 16) = y3 / 16 := IntWalk.i64_in _ (by omega)
          have w14 : IntKind.i64.wrap ((y3 % 100) + (y3 / 16)) = (y3 % 100) + (y3 / 16) := IntWalk.i64_in _ (by omega)
          have w15 : IntKind.i64.wrap (y4) = y4 := IntWalk.i64_in _ (by omega)
          have w16 : IntKind.i64.wrap (1000 * y4) = 1000 * y4 := IntWalk.i64_in _ (by omega)
          have w17 : IntKind.i64.wrap (y5) = y5 := IntWalk.i64_in _ (by omega)
          have w18 : IntKind.i64.wrap (10 * y5) = 10 * y5 := IntWalk.i64_in _ (by omega)
          refine wp_region_facts 44 [(1, 0), (3, 2), (4, 3), (5, 4), (7, 6), (8, 7), (9, 8), (11, 10), (12, 11), (13, 12), (15, 14), (16, 15), (17, 16), (18, 13), (18, 17), (19, 9), (19, 18), (21, 20), (22, 21), (23, 22), (25, 24), (26, 25), (27, 26), (29, 28), (30, 29), (31, 30), (32, 27), (32, 31), (33, 23), (33, 32), (35, 34), (36, 35), (37, 36), (39, 38), (40, 39), (41, 40), (42, 1), (42, 5), (42, 19), (42, 33), (42, 37), (42, 41)] (fun x => ⟨#[s 0, .pointer (some ⟨w.heap.size, 0, none⟩), .pointer (some ⟨(w.heap.size + 1), 0, none⟩), .pointer (some ⟨(w.heap.size + 1 + 1), 0, none⟩), .int .i64 (k : Int), .pointer (some ⟨wr.heap.size, 0, none⟩), x 43, undef, undef, undef, s 10, r 11, r 12, r 13, r 14, r 15, r 16, r 17, r 18, r 19, r 20, r 21, r 22, r 23, r 24, r 25, r 26, r 27, r 28, r 29, r 30, r 31, r 32, r 33, r 34, r 35, r 36, r 37, r 38, x 0, x 1, x 2, x 3, x 4, x 5, x 6, x 7, x 8, x 9, x 10, x 11, x 12, x 13, x 14, x 15, x 16, x 17, x 18, x 19, x 20, x 21, x 22, x 23, x 24, x 25, x 26, x 27, x 28, x 29, x 30, x 31, x 32, x 33, x 34, x 35, x 36, x 37, x 38, x 39, x 40, x 41, x 42, r 82, r 83, r 84, r 85, r 86, r 87, r 88, r 89, r 90, r 91, r 92, r 93, r 94, r 95, undef, undef, undef, undef, undef, undef, undef, undef, undef, undef, undef, undef, undef, undef, undef, undef, undef, undef, undef, undef, undef, undef, undef, undef, undef, undef, undef, undef, undef, undef, undef, undef, undef, undef, undef, undef, undef, undef, undef, undef, undef, undef, undef, undef, undef, undef, undef, undef, undef, undef, undef, undef, undef, undef, undef, undef, undef, undef, undef, undef, undef, undef, undef], []⟩) (fun i => [r 39, r 40, r 41, r 42, r 43, r 44, r 45, r 46, r 47, r 48, r 49, r 50, r 51, r 52, r 53, r 54, r 55, r 56, r 57, r 58, r 59, r 60, r 61, r 62, r 63, r 64, r 65, r 66, r 67, r 68, r 69, r 70, r 71, r 72, r 73, r 74, r 75, r 76, r 77, r 78, r 79, r 80, r 81, r 6].getD i undef) [fun _ x => x = .int .i64 (k : Int), fun _ x => x = .int .i64 (1 + (k : Int)), fun _ x => x = .pointer (some ⟨wr.heap.size, 1, none⟩), fun _ x => x = .int .u8 y1, fun _ x => x = .int .i64 y1, fun _ x => x = .int .i64 (50 + y1), fun _ x => x = .pointer (some ⟨wr.heap.size, 2, none⟩), fun _ x => x = .int .u8 y2, fun _ x => x = .int .i64 y2, fun _ x => x = .int .i64 (50 + y2), fun _ x => x = .pointer (some ⟨wr.heap.size, 2, none⟩), fun _ x => x = .int .u8 y2, fun _ x => x = .int .i64 y2, fun _ x => x = .int .i64 (50 + y2), fun _ x => x = .pointer (some ⟨wr.heap.size, 0, none⟩), fun _ x => x = .int .u8 y0, fun _ x => x = .int .i64 y0, fun _ x => x = .int .i64 (y0 / 8), fun _ x => x = .int .i64 ((50 + y2) + (y0 / 8)), fun _ x => x = .agg #[.int .i64 (50 + y2), .int .i64 ((50 + y2) + (y0 / 8))], fun _ x => x = .pointer (some ⟨wr.heap.size, 3, none⟩), fun _ x => x = .int .u8 y3, fun _ x => x = .int .i64 y3, fun _ x => x = .int .i64 (y3 % 100), fun _ x => x = .pointer (some ⟨wr.heap.size, 3, none⟩), fun _ x => x = .int .u8 y3, fun _ x => x = .int .i64 y3, fun _ x => x = .int .i64 (y3 % 100), fun _ x => x = .pointer (some ⟨wr.heap.size, 3, none⟩), fun _ x => x = .int .u8 y3, fun _ x => x = .int .i64 y3, fun _ x => x = .int .i64 (y3 / 16), fun _ x => x = .int .i64 ((y3 % 100) + (y3 / 16)), fun _ x => x = .agg #[.int .i64 (y3 % 100), .int .i64 ((y3 % 100) + (y3 / 16))], fun _ x => x = .pointer (some ⟨wr.heap.size, 4, none⟩), fun _ x => x = .int .u8 y4, fun _ x => x = .int .i64 y4, fun _ x => x = .int .i64 (1000 * y4), fun _ x => x = .pointer (some ⟨wr.heap.size, 5, none⟩), fun _ x => x = .int .u8 y5, fun _ x => x = .int .i64 y5, fun _ x => x = .int .i64 (10 * y5), fun _ x => x = .agg #[.int .i64 (1 + (k : Int)), .int .i64 (50 + y1), .int .i64 (50 + y2), .int .i64 ((50 + y2) + (y0 / 8)), .int .i64 (y3 % 100), .int .i64 ((y3 % 100) + (y3 / 16)), .int .i64 (1000 * y4), .int .i64 (10 * y5)], fun v x => ∃ b, x = .pointer (some ⟨b, 0, none⟩) ∧ wc.heap.size ≤ b ∧ Own v b [.int .i64 0, .int .i64 0, .int .i64 0, .int .i64 0, .int .i64 0, .int .i64 0, .int .i64 0, .int .i64 0]] (by rfl) (by kernel_rfl) (by kernel_rfl) (by kernel_rfl) (stays_cons (Stays.eq _) (stays_cons (Stays.eq _) (stays_cons (Stays.eq _) (stays_cons (Stays.eq _) (stays_cons (Stays.eq _) (stays_cons (Stays.eq _) (stays_cons (Stays.eq _) (stays_cons (Stays.eq _) (stays_cons (Stays.eq _) (stays_cons (Stays.eq _) (stays_cons (Stays.eq _) (stays_cons (Stays.eq _) (stays_cons (Stays.eq _) (stays_cons (Stays.eq _) (stays_cons (Stays.eq _) (stays_cons (Stays.eq _) (stays_cons (Stays.eq _) (stays_cons (Stays.eq _) (stays_cons (Stays.eq _) (stays_cons (Stays.eq _) (stays_cons (Stays.eq _) (stays_cons (Stays.eq _) (stays_cons (Stays.eq _) (stays_cons (Stays.eq _) (stays_cons (Stays.eq _) (stays_cons (Stays.eq _) (stays_cons (Stays.eq _) (stays_cons (Stays.eq _) (stays_cons (Stays.eq _) (stays_cons (Stays.eq _) (stays_cons (Stays.eq _) (stays_cons (Stays.eq _) (stays_cons (Stays.eq _) (stays_cons (Stays.eq _) (stays_cons (Stays.eq _) (stays_cons (Stays.eq _) (stays_cons (Stays.eq _) (stays_cons (Stays.eq _) (stays_cons (Stays.eq _) (stays_cons (Stays.eq _) (stays_cons (Stays.eq _) (stays_cons (Stays.eq _) (stays_cons (Stays.eq _) (stays_cons ((show Stays (fun v x => ∃ b, x = .pointer (some ⟨b, 0, none⟩) ∧ wc.heap.size ≤ b ∧ Own v b [.int .i64 0, .int .i64 0, .int .i64 0, .int .i64 0, .int .i64 0, .int .i64 0, .int .i64 0, .int .i64 0]) from fun v v' x g ⟨b, e, h, o⟩ => ⟨b, e, h, o.keep g⟩)) stays_nil)))))))))))))))))))))))))))))))))))))))))))) ?step8 ?fin8
          case step8 =>
            rintro i hi x v gv hd K hK
            have hi8 : i = 0 ∨ i = 1 ∨ i = 2 ∨ i = 3 ∨ i = 4 ∨ i = 5 ∨ i = 6 ∨ i = 7 ∨ i = 8 ∨ i = 9 ∨ i = 10 ∨ i = 11 ∨ i = 12 ∨ i = 13 ∨ i = 14 ∨ i = 15 ∨ i = 16 ∨ i = 17 ∨ i = 18 ∨ i = 19 ∨ i = 20 ∨ i = 21 ∨ i = 22 ∨ i = 23 ∨ i = 24 ∨ i = 25 ∨ i = 26 ∨ i = 27 ∨ i = 28 ∨ i = 29 ∨ i = 30 ∨ i = 31 ∨ i = 32 ∨ i = 33 ∨ i = 34 ∨ i = 35 ∨ i = 36 ∨ i = 37 ∨ i = 38 ∨ i = 39 ∨ i = 40 ∨ i = 41 ∨ i = 42 ∨ i = 43 := by omega
            rcases hi8 with rfl | rfl | rfl | rfl | rfl | rfl | rfl | rfl | rfl | rfl | rfl | rfl | rfl | rfl | rfl | rfl | rfl | rfl | rfl | rfl | rfl | rfl | rfl | rfl | rfl | rfl | rfl | rfl | rfl | rfl | rfl | rfl | rfl | rfl | rfl | rfl | rfl | rfl | rfl | rfl | rfl | rfl | rfl | rfl
            · show wpOp Try.prog _ _ 0 K (⟨#[s 0, .pointer (some ⟨w.heap.size, 0, none⟩), .pointer (some ⟨(w.heap.size + 1), 0, none⟩), .pointer (some ⟨(w.heap.size + 1 + 1), 0, none⟩), .int .i64 (k : Int), .pointer (some ⟨wr.heap.size, 0, none⟩), x 43, undef, undef, undef, s 10, r 11, r 12, r 13, r 14, r 15, r 16, r 17, r 18, r 19, r 20, r 21, r 22, r 23, r 24, r 25, r 26, r 27, r 28, r 29, r 30, r 31, r 32, r 33, r 34, r 35, r 36, r 37, r 38, x 0, x 1, x 2, x 3, x 4, x 5, x 6, x 7, x 8, x 9, x 10, x 11, x 12, x 13, x 14, x 15, x 16, x 17, x 18, x 19, x 20, x 21, x 22, x 23, x 24, x 25, x 26, x 27, x 28, x 29, x 30, x 31, x 32, x 33, x 34, x 35, x 36, x 37, x 38, x 39, x 40, x 41, x 42, r 82, r 83, r 84, r 85, r 86, r 87, r 88, r 89, r 90, r 91, r 92, r 93, r 94, r 95, undef, undef, undef, undef, undef, undef, undef, undef, undef, undef, undef, undef, undef, undef, undef, undef, undef, undef, undef, undef, undef, undef, undef, undef, undef, undef, undef, undef, undef, undef, undef, undef, undef, undef, undef, undef, undef, undef, undef, undef, undef, undef, undef, undef, undef, undef, undef, undef, undef, undef, undef, undef, undef, undef, undef, undef, undef, undef, undef, undef, undef, undef, undef], []⟩ : Act) v
              refine wpOp_step rfl (fun K' hK' => ?_)
              go_simp
              exact hK' _ _ (hK _ _ (Below.refl _ _) (at_of rfl (rfl)))
            · obtain ⟨x, rfl⟩ := upd_of (show x 0 = .int .i64 (k : Int) from hd 0 _ (by simp) rfl)
              show wpOp Try.prog _ _ 1 K (⟨#[s 0, .pointer (some ⟨w.heap.size, 0, none⟩), .pointer (some ⟨(w.heap.size + 1), 0, none⟩), .pointer (some ⟨(w.heap.size + 1 + 1), 0, none⟩), .int .i64 (k : Int), .pointer (some ⟨wr.heap.size, 0, none⟩), x 43, undef, undef, undef, s 10, r 11, r 12, r 13, r 14, r 15, r 16, r 17, r 18, r 19, r 20, r 21, r 22, r 23, r 24, r 25, r 26, r 27, r 28, r 29, r 30, r 31, r 32, r 33, r 34, r 35, r 36, r 37, r 38, .int .i64 (k : Int), x 1, x 2, x 3, x 4, x 5, x 6, x 7, x 8, x 9, x 10, x 11, x 12, x 13, x 14, x 15, x 16, x 17, x 18, x 19, x 20, x 21, x 22, x 23, x 24, x 25, x 26, x 27, x 28, x 29, x 30, x 31, x 32, x 33, x 34, x 35, x 36, x 37, x 38, x 39, x 40, x 41, x 42, r 82, r 83, r 84, r 85, r 86, r 87, r 88, r 89, r 90, r 91, r 92, r 93, r 94, r 95, undef, undef, undef, undef, undef, undef, undef, undef, undef, undef, undef, undef, undef, undef, undef, undef, undef, undef, undef, undef, undef, undef, undef, undef, undef, undef, undef, undef, undef, undef, undef, undef, undef, undef, undef, undef, undef, undef, undef, undef, undef, undef, undef, undef, undef, undef, undef, undef, undef, undef, undef, undef, undef, undef, undef, undef, undef, undef, undef, undef, undef, undef, undef], []⟩ : Act) v
              refine wpOp_step rfl (fun K' hK' => ?_)
              go_simp
              exact hK' _ _ (hK _ _ (Below.refl _ _) (at_of rfl (rfl)))
            · show wpOp Try.prog _ _ 2 K (⟨#[s 0, .pointer (some ⟨w.heap.size, 0, none⟩), .pointer (some ⟨(w.heap.size + 1), 0, none⟩), .pointer (some ⟨(w.heap.size + 1 + 1), 0, none⟩), .int .i64 (k : Int), .pointer (some ⟨wr.heap.size, 0, none⟩), x 43, undef, undef, undef, s 10, r 11, r 12, r 13, r 14, r 15, r 16, r 17, r 18, r 19, r 20, r 21, r 22, r 23, r 24, r 25, r 26, r 27, r 28, r 29, r 30, r 31, r 32, r 33, r 34, r 35, r 36, r 37, r 38, x 0, x 1, x 2, x 3, x 4, x 5, x 6, x 7, x 8, x 9, x 10, x 11, x 12, x 13, x 14, x 15, x 16, x 17, x 18, x 19, x 20, x 21, x 22, x 23, x 24, x 25, x 26, x 27, x 28, x 29, x 30, x 31, x 32, x 33, x 34, x 35, x 36, x 37, x 38, x 39, x 40, x 41, x 42, r 82, r 83, r 84, r 85, r 86, r 87, r 88, r 89, r 90, r 91, r 92, r 93, r 94, r 95, undef, undef, undef, undef, undef, undef, undef, undef, undef, undef, undef, undef, undef, undef, undef, undef, undef, undef, undef, undef, undef, undef, undef, undef, undef, undef, undef, undef, undef, undef, undef, undef, undef, undef, undef, undef, undef, undef, undef, undef, undef, undef, undef, undef, undef, undef, undef, undef, undef, undef, undef, undef, undef, undef, undef, undef, undef, undef, undef, undef, undef, undef, undef], []⟩ : Act) v
              refine wpOp_step rfl (fun K' hK' => ?_)
              go_simp
              exact hK' _ _ (hK _ _ (Below.refl _ _) (at_of rfl (rfl)))
            · obtain ⟨x, rfl⟩ := upd_of (show x 2 = .pointer (some ⟨wr.heap.size, 1, none⟩) from hd 2 _ (by simp) rfl)
              show wpOp Try.prog _ _ 3 K (⟨#[s 0, .pointer (some ⟨w.heap.size, 0, none⟩), .pointer (some ⟨(w.heap.size + 1), 0, none⟩), .pointer (some ⟨(w.heap.size + 1 + 1), 0, none⟩), .int .i64 (k : Int), .pointer (some ⟨wr.heap.size, 0, none⟩), x 43, undef, undef, undef, s 10, r 11, r 12, r 13, r 14, r 15, r 16, r 17, r 18, r 19, r 20, r 21, r 22, r 23, r 24, r 25, r 26, r 27, r 28, r 29, r 30, r 31, r 32, r 33, r 34, r 35, r 36, r 37, r 38, x 0, x 1, .pointer (some ⟨wr.heap.size, 1, none⟩), x 3, x 4, x 5, x 6, x 7, x 8, x 9, x 10, x 11, x 12, x 13, x 14, x 15, x 16, x 17, x 18, x 19, x 20, x 21, x 22, x 23, x 24, x 25, x 26, x 27, x 28, x 29, x 30, x 31, x 32, x 33, x 34, x 35, x 36, x 37, x 38, x 39, x 40, x 41, x 42, r 82, r 83, r 84, r 85, r 86, r 87, r 88, r 89, r 90, r 91, r 92, r 93, r 94, r 95, undef, undef, undef, undef, undef, undef, undef, undef, undef, undef, undef, undef, undef, undef, undef, undef, undef, undef, undef, undef, undef, undef, undef, undef, undef, undef, undef, undef, undef, undef, undef, undef, undef, undef, undef, undef, undef, undef, undef, undef, undef, undef, undef, undef, undef, undef, undef, undef, undef, undef, undef, undef, undef, undef, undef, undef, undef, undef, undef, undef, undef, undef, undef], []⟩ : Act) v
              refine wpOp_step rfl (fun K' hK' => ?_)
              have q := (ov.1.keep gv).2 1 _ rfl
              go_simp
              exact hK' _ _ (hK _ _ (Below.refl _ _) (at_of rfl (rfl)))
            · obtain ⟨x, rfl⟩ := upd_of (show x 3 = .int .u8 y1 from hd 3 _ (by simp) rfl)
              show wpOp Try.prog _ _ 4 K (⟨#[s 0, .pointer (some ⟨w.heap.size, 0, none⟩), .pointer (some ⟨(w.heap.size + 1), 0, none⟩), .pointer (some ⟨(w.heap.size + 1 + 1), 0, none⟩), .int .i64 (k : Int), .pointer (some ⟨wr.heap.size, 0, none⟩), x 43, undef, undef, undef, s 10, r 11, r 12, r 13, r 14, r 15, r 16, r 17, r 18, r 19, r 20, r 21, r 22, r 23, r 24, r 25, r 26, r 27, r 28, r 29, r 30, r 31, r 32, r 33, r 34, r 35, r 36, r 37, r 38, x 0, x 1, x 2, .int .u8 y1, x 4, x 5, x 6, x 7, x 8, x 9, x 10, x 11, x 12, x 13, x 14, x 15, x 16, x 17, x 18, x 19, x 20, x 21, x 22, x 23, x 24, x 25, x 26, x 27, x 28, x 29, x 30, x 31, x 32, x 33, x 34, x 35, x 36, x 37, x 38, x 39, x 40, x 41, x 42, r 82, r 83, r 84, r 85, r 86, r 87, r 88, r 89, r 90, r 91, r 92, r 93, r 94, r 95, undef, undef, undef, undef, undef, undef, undef, undef, undef, undef, undef, undef, undef, undef, undef, undef, undef, undef, undef, undef, undef, undef, undef, undef, undef, undef, undef, undef, undef, undef, undef, undef, undef, undef, undef, undef, undef, undef, undef, undef, undef, undef, undef, undef, undef, undef, undef, undef, undef, undef, undef, undef, undef, undef, undef, undef, undef, undef, undef, undef, undef, undef, undef], []⟩ : Act) v
              refine wpOp_step rfl (fun K' hK' => ?_)
              go_simp
              exact hK' _ _ (hK _ _ (Below.refl _ _) (at_of rfl (rfl)))
            · obtain ⟨x, rfl⟩ := upd_of (show x 4 = .int .i64 y1 from hd 4 _ (by simp) rfl)
              show wpOp Try.prog _ _ 5 K (⟨#[s 0, .pointer (some ⟨w.heap.size, 0, none⟩), .pointer (some ⟨(w.heap.size + 1), 0, none⟩), .pointer (some ⟨(w.heap.size + 1 + 1), 0, none⟩), .int .i64 (k : Int), .pointer (some ⟨wr.heap.size, 0, none⟩), x 43, undef, undef, undef, s 10, r 11, r 12, r 13, r 14, r 15, r 16, r 17, r 18, r 19, r 20, r 21, r 22, r 23, r 24, r 25, r 26, r 27, r 28, r 29, r 30, r 31, r 32, r 33, r 34, r 35, r 36, r 37, r 38, x 0, x 1, x 2, x 3, .int .i64 y1, x 5, x 6, x 7, x 8, x 9, x 10, x 11, x 12, x 13, x 14, x 15, x 16, x 17, x 18, x 19, x 20, x 21, x 22, x 23, x 24, x 25, x 26, x 27, x 28, x 29, x 30, x 31, x 32, x 33, x 34, x 35, x 36, x 37, x 38, x 39, x 40, x 41, x 42, r 82, r 83, r 84, r 85, r 86, r 87, r 88, r 89, r 90, r 91, r 92, r 93, r 94, r 95, undef, undef, undef, undef, undef, undef, undef, undef, undef, undef, undef, undef, undef, undef, undef, undef, undef, undef, undef, undef, undef, undef, undef, undef, undef, undef, undef, undef, undef, undef, undef, undef, undef, undef, undef, undef, undef, undef, undef, undef, undef, undef, undef, undef, undef, undef, undef, undef, undef, undef, undef, undef, undef, undef, undef, undef, undef, undef, undef, undef, undef, undef, undef], []⟩ : Act) v
              refine wpOp_step rfl (fun K' hK' => ?_)
              go_simp
              exact hK' _ _ (hK _ _ (Below.refl _ _) (at_of rfl (rfl)))
            · show wpOp Try.prog _ _ 6 K (⟨#[s 0, .pointer (some ⟨w.heap.size, 0, none⟩), .pointer (some ⟨(w.heap.size + 1), 0, none⟩), .pointer (some ⟨(w.heap.size + 1 + 1), 0, none⟩), .int .i64 (k : Int), .pointer (some ⟨wr.heap.size, 0, none⟩), x 43, undef, undef, undef, s 10, r 11, r 12, r 13, r 14, r 15, r 16, r 17, r 18, r 19, r 20, r 21, r 22, r 23, r 24, r 25, r 26, r 27, r 28, r 29, r 30, r 31, r 32, r 33, r 34, r 35, r 36, r 37, r 38, x 0, x 1, x 2, x 3, x 4, x 5, x 6, x 7, x 8, x 9, x 10, x 11, x 12, x 13, x 14, x 15, x 16, x 17, x 18, x 19, x 20, x 21, x 22, x 23, x 24, x 25, x 26, x 27, x 28, x 29, x 30, x 31, x 32, x 33, x 34, x 35, x 36, x 37, x 38, x 39, x 40, x 41, x 42, r 82, r 83, r 84, r 85, r 86, r 87, r 88, r 89, r 90, r 91, r 92, r 93, r 94, r 95, undef, undef, undef, undef, undef, undef, undef, undef, undef, undef, undef, undef, undef, undef, undef, undef, undef, undef, undef, undef, undef, undef, undef, undef, undef, undef, undef, undef, undef, undef, undef, undef, undef, undef, undef, undef, undef, undef, undef, undef, undef, undef, undef, undef, undef, undef, undef, undef, undef, undef, undef, undef, undef, undef, undef, undef, undef, undef, undef, undef, undef, undef, undef], []⟩ : Act) v
              refine wpOp_step rfl (fun K' hK' => ?_)
              go_simp
              exact hK' _ _ (hK _ _ (Below.refl _ _) (at_of rfl (rfl)))
            · obtain ⟨x, rfl⟩ := upd_of (show x 6 = .pointer (some ⟨wr.heap.size, 2, none⟩) from hd 6 _ (by simp) rfl)
              show wpOp Try.prog _ _ 7 K (⟨#[s 0, .pointer (some ⟨w.heap.size, 0, none⟩), .pointer (some ⟨(w.heap.size + 1), 0, none⟩), .pointer (some ⟨(w.heap.size + 1 + 1), 0, none⟩), .int .i64 (k : Int), .pointer (some ⟨wr.heap.size, 0, none⟩), x 43, undef, undef, undef, s 10, r 11, r 12, r 13, r 14, r 15, r 16, r 17, r 18, r 19, r 20, r 21, r 22, r 23, r 24, r 25, r 26, r 27, r 28, r 29, r 30, r 31, r 32, r 33, r 34, r 35, r 36, r 37, r 38, x 0, x 1, x 2, x 3, x 4, x 5, .pointer (some ⟨wr.heap.size, 2, none⟩), x 7, x 8, x 9, x 10, x 11, x 12, x 13, x 14, x 15, x 16, x 17, x 18, x 19, x 20, x 21, x 22, x 23, x 24, x 25, x 26, x 27, x 28, x 29, x 30, x 31, x 32, x 33, x 34, x 35, x 36, x 37, x 38, x 39, x 40, x 41, x 42, r 82, r 83, r 84, r 85, r 86, r 87, r 88, r 89, r 90, r 91, r 92, r 93, r 94, r 95, undef, undef, undef, undef, undef, undef, undef, undef, undef, undef, undef, undef, undef, undef, undef, undef, undef, undef, undef, undef, undef, undef, undef, undef, undef, undef, undef, undef, undef, undef, undef, undef, undef, undef, undef, undef, undef, undef, undef, undef, undef, undef, undef, undef, undef, undef, undef, undef, undef, undef, undef, undef, undef, undef, undef, undef, undef, undef, undef, undef, undef, undef, undef], []⟩ : Act) v
              refine wpOp_step rfl (fun K' hK' => ?_)
              have q := (ov.1.keep gv).2 2 _ rfl
              go_simp
              exact hK' _ _ (hK _ _ (Below.refl _ _) (at_of rfl (rfl)))
            · obtain ⟨x, rfl⟩ := upd_of (show x 7 = .int .u8 y2 from hd 7 _ (by simp) rfl)
              show wpOp Try.prog _ _ 8 K (⟨#[s 0, .pointer (some ⟨w.heap.size, 0, none⟩), .pointer (some ⟨(w.heap.size + 1), 0, none⟩), .pointer (some ⟨(w.heap.size + 1 + 1), 0, none⟩), .int .i64 (k : Int), .pointer (some ⟨wr.heap.size, 0, none⟩), x 43, undef, undef, undef, s 10, r 11, r 12, r 13, r 14, r 15, r 16, r 17, r 18, r 19, r 20, r 21, r 22, r 23, r 24, r 25, r 26, r 27, r 28, r 29, r 30, r 31, r 32, r 33, r 34, r 35, r 36, r 37, r 38, x 0, x 1, x 2, x 3, x 4, x 5, x 6, .int .u8 y2, x 8, x 9, x 10, x 11, x 12, x 13, x 14, x 15, x 16, x 17, x 18, x 19, x 20, x 21, x 22, x 23, x 24, x 25, x 26, x 27, x 28, x 29, x 30, x 31, x 32, x 33, x 34, x 35, x 36, x 37, x 38, x 39, x 40, x 41, x 42, r 82, r 83, r 84, r 85, r 86, r 87, r 88, r 89, r 90, r 91, r 92, r 93, r 94, r 95, undef, undef, undef, undef, undef, undef, undef, undef, undef, undef, undef, undef, undef, undef, undef, undef, undef, undef, undef, undef, undef, undef, undef, undef, undef, undef, undef, undef, undef, undef, undef, undef, undef, undef, undef, undef, undef, undef, undef, undef, undef, undef, undef, undef, undef, undef, undef, undef, undef, undef, undef, undef, undef, undef, undef, undef, undef, undef, undef, undef, undef, undef, undef], []⟩ : Act) v
              refine wpOp_step rfl (fun K' hK' => ?_)
              go_simp
              exact hK' _ _ (hK _ _ (Below.refl _ _) (at_of rfl (rfl)))
            · obtain ⟨x, rfl⟩ := upd_of (show x 8 = .int .i64 y2 from hd 8 _ (by simp) rfl)
              show wpOp Try.prog _ _ 9 K (⟨#[s 0, .pointer (some ⟨w.heap.size, 0, none⟩), .pointer (some ⟨(w.heap.size + 1), 0, none⟩), .pointer (some ⟨(w.heap.size + 1 + 1), 0, none⟩), .int .i64 (k : Int), .pointer (some ⟨wr.heap.size, 0, none⟩), x 43, undef, undef, undef, s 10, r 11, r 12, r 13, r 14, r 15, r 16, r 17, r 18, r 19, r 20, r 21, r 22, r 23, r 24, r 25, r 26, r 27, r 28, r 29, r 30, r 31, r 32, r 33, r 34, r 35, r 36, r 37, r 38, x 0, x 1, x 2, x 3, x 4, x 5, x 6, x 7, .int .i64 y2, x 9, x 10, x 11, x 12, x 13, x 14, x 15, x 16, x 17, x 18, x 19, x 20, x 21, x 22, x 23, x 24, x 25, x 26, x 27, x 28, x 29, x 30, x 31, x 32, x 33, x 34, x 35, x 36, x 37, x 38, x 39, x 40, x 41, x 42, r 82, r 83, r 84, r 85, r 86, r 87, r 88, r 89, r 90, r 91, r 92, r 93, r 94, r 95, undef, undef, undef, undef, undef, undef, undef, undef, undef, undef, undef, undef, undef, undef, undef, undef, undef, undef, undef, undef, undef, undef, undef, undef, undef, undef, undef, undef, undef, undef, undef, undef, undef, undef, undef, undef, undef, undef, undef, undef, undef, undef, undef, undef, undef, undef, undef, undef, undef, undef, undef, undef, undef, undef, undef, undef, undef, undef, undef, undef, undef, undef, undef], []⟩ : Act) v
              refine wpOp_step rfl (fun K' hK' => ?_)
              go_simp
              exact hK' _ _ (hK _ _ (Below.refl _ _) (at_of rfl (rfl)))
            · show wpOp Try.prog _ _ 10 K (⟨#[s 0, .pointer (some ⟨w.heap.size, 0, none⟩), .pointer (some ⟨(w.heap.size + 1), 0, none⟩), .pointer (some ⟨(w.heap.size + 1 + 1), 0, none⟩), .int .i64 (k : Int), .pointer (some ⟨wr.heap.size, 0, none⟩), x 43, undef, undef, undef, s 10, r 11, r 12, r 13, r 14, r 15, r 16, r 17, r 18, r 19, r 20, r 21, r 22, r 23, r 24, r 25, r 26, r 27, r 28, r 29, r 30, r 31, r 32, r 33, r 34, r 35, r 36, r 37, r 38, x 0, x 1, x 2, x 3, x 4, x 5, x 6, x 7, x 8, x 9, x 10, x 11, x 12, x 13, x 14, x 15, x 16, x 17, x 18, x 19, x 20, x 21, x 22, x 23, x 24, x 25, x 26, x 27, x 28, x 29, x 30, x 31, x 32, x 33, x 34, x 35, x 36, x 37, x 38, x 39, x 40, x 41, x 42, r 82, r 83, r 84, r 85, r 86, r 87, r 88, r 89, r 90, r 91, r 92, r 93, r 94, r 95, undef, undef, undef, undef, undef, undef, undef, undef, undef, undef, undef, undef, undef, undef, undef, undef, undef, undef, undef, undef, undef, undef, undef, undef, undef, undef, undef, undef, undef, undef, undef, undef, undef, undef, undef, undef, undef, undef, undef, undef, undef, undef, undef, undef, undef, undef, undef, undef, undef, undef, undef, undef, undef, undef, undef, undef, undef, undef, undef, undef, undef, undef, undef], []⟩ : Act) v
              refine wpOp_step rfl (fun K' hK' => ?_)
              go_simp
              exact hK' _ _ (hK _ _ (Below.refl _ _) (at_of rfl (rfl)))
            · obtain ⟨x, rfl⟩ := upd_of (show x 10 = .pointer (some ⟨wr.heap.size, 2, none⟩) from hd 10 _ (by simp) rfl)
              show wpOp Try.prog _ _ 11 K (⟨#[s 0, .pointer (some ⟨w.heap.size, 0, none⟩), .pointer (some ⟨(w.heap.size + 1), 0, none⟩), .pointer (some ⟨(w.heap.size + 1 + 1), 0, none⟩), .int .i64 (k : Int), .pointer (some ⟨wr.heap.size, 0, none⟩), x 43, undef, undef, undef, s 10, r 11, r 12, r 13, r 14, r 15, r 16, r 17, r 18, r 19, r 20, r 21, r 22, r 23, r 24, r 25, r 26, r 27, r 28, r 29, r 30, r 31, r 32, r 33, r 34, r 35, r 36, r 37, r 38, x 0, x 1, x 2, x 3, x 4, x 5, x 6, x 7, x 8, x 9, .pointer (some ⟨wr.heap.size, 2, none⟩), x 11, x 12, x 13, x 14, x 15, x 16, x 17, x 18, x 19, x 20, x 21, x 22, x 23, x 24, x 25, x 26, x 27, x 28, x 29, x 30, x 31, x 32, x 33, x 34, x 35, x 36, x 37, x 38, x 39, x 40, x 41, x 42, r 82, r 83, r 84, r 85, r 86, r 87, r 88, r 89, r 90, r 91, r 92, r 93, r 94, r 95, undef, undef, undef, undef, undef, undef, undef, undef, undef, undef, undef, undef, undef, undef, undef, undef, undef, undef, undef, undef, undef, undef, undef, undef, undef, undef, undef, undef, undef, undef, undef, undef, undef, undef, undef, undef, undef, undef, undef, undef, undef, undef, undef, undef, undef, undef, undef, undef, undef, undef, undef, undef, undef, undef, undef, undef, undef, undef, undef, undef, undef, undef, undef], []⟩ : Act) v
              refine wpOp_step rfl (fun K' hK' => ?_)
              have q := (ov.1.keep gv).2 2 _ rfl
              go_simp
              exact hK' _ _ (hK _ _ (Below.refl _ _) (at_of rfl (rfl)))
            · obtain ⟨x, rfl⟩ := upd_of (show x 11 = .int .u8 y2 from hd 11 _ (by simp) rfl)
              show wpOp Try.prog _ _ 12 K (⟨#[s 0, .pointer (some ⟨w.heap.size, 0, none⟩), .pointer (some ⟨(w.heap.size + 1), 0, none⟩), .pointer (some ⟨(w.heap.size + 1 + 1), 0, none⟩), .int .i64 (k : Int), .pointer (some ⟨wr.heap.size, 0, none⟩), x 43, undef, undef, undef, s 10, r 11, r 12, r 13, r 14, r 15, r 16, r 17, r 18, r 19, r 20, r 21, r 22, r 23, r 24, r 25, r 26, r 27, r 28, r 29, r 30, r 31, r 32, r 33, r 34, r 35, r 36, r 37, r 38, x 0, x 1, x 2, x 3, x 4, x 5, x 6, x 7, x 8, x 9, x 10, .int .u8 y2, x 12, x 13, x 14, x 15, x 16, x 17, x 18, x 19, x 20, x 21, x 22, x 23, x 24, x 25, x 26, x 27, x 28, x 29, x 30, x 31, x 32, x 33, x 34, x 35, x 36, x 37, x 38, x 39, x 40, x 41, x 42, r 82, r 83, r 84, r 85, r 86, r 87, r 88, r 89, r 90, r 91, r 92, r 93, r 94, r 95, undef, undef, undef, undef, undef, undef, undef, undef, undef, undef, undef, undef, undef, undef, undef, undef, undef, undef, undef, undef, undef, undef, undef, undef, undef, undef, undef, undef, undef, undef, undef, undef, undef, undef, undef, undef, undef, undef, undef, undef, undef, undef, undef, undef, undef, undef, undef, undef, undef, undef, undef, undef, undef, undef, undef, undef, undef, undef, undef, undef, undef, undef, undef], []⟩ : Act) v
              refine wpOp_step rfl (fun K' hK' => ?_)
              go_simp
              exact hK' _ _ (hK _ _ (Below.refl _ _) (at_of rfl (rfl)))
            · obtain ⟨x, rfl⟩ := upd_of (show x 12 = .int .i64 y2 from hd 12 _ (by simp) rfl)
              show wpOp Try.prog _ _ 13 K (⟨#[s 0, .pointer (some ⟨w.heap.size, 0, none⟩), .pointer (some ⟨(w.heap.size + 1), 0, none⟩), .pointer (some ⟨(w.heap.size + 1 + 1), 0, none⟩), .int .i64 (k : Int), .pointer (some ⟨wr.heap.size, 0, none⟩), x 43, undef, undef, undef, s 10, r 11, r 12, r 13, r 14, r 15, r 16, r 17, r 18, r 19, r 20, r 21, r 22, r 23, r 24, r 25, r 26, r 27, r 28, r 29, r 30, r 31, r 32, r 33, r 34, r 35, r 36, r 37, r 38, x 0, x 1, x 2, x 3, x 4, x 5, x 6, x 7, x 8, x 9, x 10, x 11, .int .i64 y2, x 13, x 14, x 15, x 16, x 17, x 18, x 19, x 20, x 21, x 22, x 23, x 24, x 25, x 26, x 27, x 28, x 29, x 30, x 31, x 32, x 33, x 34, x 35, x 36, x 37, x 38, x 39, x 40, x 41, x 42, r 82, r 83, r 84, r 85, r 86, r 87, r 88, r 89, r 90, r 91, r 92, r 93, r 94, r 95, undef, undef, undef, undef, undef, undef, undef, undef, undef, undef, undef, undef, undef, undef, undef, undef, undef, undef, undef, undef, undef, undef, undef, undef, undef, undef, undef, undef, undef, undef, undef, undef, undef, undef, undef, undef, undef, undef, undef, undef, undef, undef, undef, undef, undef, undef, undef, undef, undef, undef, undef, undef, undef, undef, undef, undef, undef, undef, undef, undef, undef, undef, undef], []⟩ : Act) v
              refine wpOp_step rfl (fun K' hK' => ?_)
              go_simp
              exact hK' _ _ (hK _ _ (Below.refl _ _) (at_of rfl (rfl)))
            · show wpOp Try.prog _ _ 14 K (⟨#[s 0, .pointer (some ⟨w.heap.size, 0, none⟩), .pointer (some ⟨(w.heap.size + 1), 0, none⟩), .pointer (some ⟨(w.heap.size + 1 + 1), 0, none⟩), .int .i64 (k : Int), .pointer (some ⟨wr.heap.size, 0, none⟩), x 43, undef, undef, undef, s 10, r 11, r 12, r 13, r 14, r 15, r 16, r 17, r 18, r 19, r 20, r 21, r 22, r 23, r 24, r 25, r 26, r 27, r 28, r 29, r 30, r 31, r 32, r 33, r 34, r 35, r 36, r 37, r 38, x 0, x 1, x 2, x 3, x 4, x 5, x 6, x 7, x 8, x 9, x 10, x 11, x 12, x 13, x 14, x 15, x 16, x 17, x 18, x 19, x 20, x 21, x 22, x 23, x 24, x 25, x 26, x 27, x 28, x 29, x 30, x 31, x 32, x 33, x 34, x 35, x 36, x 37, x 38, x 39, x 40, x 41, x 42, r 82, r 83, r 84, r 85, r 86, r 87, r 88, r 89, r 90, r 91, r 92, r 93, r 94, r 95, undef, undef, undef, undef, undef, undef, undef, undef, undef, undef, undef, undef, undef, undef, undef, undef, undef, undef, undef, undef, undef, undef, undef, undef, undef, undef, undef, undef, undef, undef, undef, undef, undef, undef, undef, undef, undef, undef, undef, undef, undef, undef, undef, undef, undef, undef, undef, undef, undef, undef, undef, undef, undef, undef, undef, undef, undef, undef, undef, undef, undef, undef, undef], []⟩ : Act) v
              refine wpOp_step rfl (fun K' hK' => ?_)
              go_simp
              exact hK' _ _ (hK _ _ (Below.refl _ _) (at_of rfl (rfl)))
            · obtain ⟨x, rfl⟩ := upd_of (show x 14 = .pointer (some ⟨wr.heap.size, 0, none⟩) from hd 14 _ (by simp) rfl)
              show wpOp Try.prog _ _ 15 K (⟨#[s 0, .pointer (some ⟨w.heap.size, 0, none⟩), .pointer (some ⟨(w.heap.size + 1), 0, none⟩), .pointer (some ⟨(w.heap.size + 1 + 1), 0, none⟩), .int .i64 (k : Int), .pointer (some ⟨wr.heap.size, 0, none⟩), x 43, undef, undef, undef, s 10, r 11, r 12, r 13, r 14, r 15, r 16, r 17, r 18, r 19, r 20, r 21, r 22, r 23, r 24, r 25, r 26, r 27, r 28, r 29, r 30, r 31, r 32, r 33, r 34, r 35, r 36, r 37, r 38, x 0, x 1, x 2, x 3, x 4, x 5, x 6, x 7, x 8, x 9, x 10, x 11, x 12, x 13, .pointer (some ⟨wr.heap.size, 0, none⟩), x 15, x 16, x 17, x 18, x 19, x 20, x 21, x 22, x 23, x 24, x 25, x 26, x 27, x 28, x 29, x 30, x 31, x 32, x 33, x 34, x 35, x 36, x 37, x 38, x 39, x 40, x 41, x 42, r 82, r 83, r 84, r 85, r 86, r 87, r 88, r 89, r 90, r 91, r 92, r 93, r 94, r 95, undef, undef, undef, undef, undef, undef, undef, undef, undef, undef, undef, undef, undef, undef, undef, undef, undef, undef, undef, undef, undef, undef, undef, undef, undef, undef, undef, undef, undef, undef, undef, undef, undef, undef, undef, undef, undef, undef, undef, undef, undef, undef, undef, undef, undef, undef, undef, undef, undef, undef, undef, undef, undef, undef, undef, undef, undef, undef, undef, undef, undef, undef, undef], []⟩ : Act) v
              refine wpOp_step rfl (fun K' hK' => ?_)
              have q := (ov.1.keep gv).2 0 _ rfl
              go_simp
              exact hK' _ _ (hK _ _ (Below.refl _ _) (at_of rfl (rfl)))
            · obtain ⟨x, rfl⟩ := upd_of (show x 15 = .int .u8 y0 from hd 15 _ (by simp) rfl)
              show wpOp Try.prog _ _ 16 K (⟨#[s 0, .pointer (some ⟨w.heap.size, 0, none⟩), .pointer (some ⟨(w.heap.size + 1), 0, none⟩), .pointer (some ⟨(w.heap.size + 1 + 1), 0, none⟩), .int .i64 (k : Int), .pointer (some ⟨wr.heap.size, 0, none⟩), x 43, undef, undef, undef, s 10, r 11, r 12, r 13, r 14, r 15, r 16, r 17, r 18, r 19, r 20, r 21, r 22, r 23, r 24, r 25, r 26, r 27, r 28, r 29, r 30, r 31, r 32, r 33, r 34, r 35, r 36, r 37, r 38, x 0, x 1, x 2, x 3, x 4, x 5, x 6, x 7, x 8, x 9, x 10, x 11, x 12, x 13, x 14, .int .u8 y0, x 16, x 17, x 18, x 19, x 20, x 21, x 22, x 23, x 24, x 25, x 26, x 27, x 28, x 29, x 30, x 31, x 32, x 33, x 34, x 35, x 36, x 37, x 38, x 39, x 40, x 41, x 42, r 82, r 83, r 84, r 85, r 86, r 87, r 88, r 89, r 90, r 91, r 92, r 93, r 94, r 95, undef, undef, undef, undef, undef, undef, undef, undef, undef, undef, undef, undef, undef, undef, undef, undef, undef, undef, undef, undef, undef, undef, undef, undef, undef, undef, undef, undef, undef, undef, undef, undef, undef, undef, undef, undef, undef, undef, undef, undef, undef, undef, undef, undef, undef, undef, undef, undef, undef, undef, undef, undef, undef, undef, undef, undef, undef, undef, undef, undef, undef, undef, undef], []⟩ : Act) v
              refine wpOp_step rfl (fun K' hK' => ?_)
              go_simp
              exact hK' _ _ (hK _ _ (Below.refl _ _) (at_of rfl (rfl)))
            · obtain ⟨x, rfl⟩ := upd_of (show x 16 = .int .i64 y0 from hd 16 _ (by simp) rfl)
              show wpOp Try.prog _ _ 17 K (⟨#[s 0, .pointer (some ⟨w.heap.size, 0, none⟩), .pointer (some ⟨(w.heap.size + 1), 0, none⟩), .pointer (some ⟨(w.heap.size + 1 + 1), 0, none⟩), .int .i64 (k : Int), .pointer (some ⟨wr.heap.size, 0, none⟩), x 43, undef, undef, undef, s 10, r 11, r 12, r 13, r 14, r 15, r 16, r 17, r 18, r 19, r 20, r 21, r 22, r 23, r 24, r 25, r 26, r 27, r 28, r 29, r 30, r 31, r 32, r 33, r 34, r 35, r 36, r 37, r 38, x 0, x 1, x 2, x 3, x 4, x 5, x 6, x 7, x 8, x 9, x 10, x 11, x 12, x 13, x 14, x 15, .int .i64 y0, x 17, x 18, x 19, x 20, x 21, x 22, x 23, x 24, x 25, x 26, x 27, x 28, x 29, x 30, x 31, x 32, x 33, x 34, x 35, x 36, x 37, x 38, x 39, x 40, x 41, x 42, r 82, r 83, r 84, r 85, r 86, r 87, r 88, r 89, r 90, r 91, r 92, r 93, r 94, r 95, undef, undef, undef, undef, undef, undef, undef, undef, undef, undef, undef, undef, undef, undef, undef, undef, undef, undef, undef, undef, undef, undef, undef, undef, undef, undef, undef, undef, undef, undef, undef, undef, undef, undef, undef, undef, undef, undef, undef, undef, undef, undef, undef, undef, undef, undef, undef, undef, undef, undef, undef, undef, undef, undef, undef, undef, undef, undef, undef, undef, undef, undef, undef], []⟩ : Act) v
              refine wpOp_step rfl (fun K' hK' => ?_)
              go_simp
              exact hK' _ _ (hK _ _ (Below.refl _ _) (at_of rfl (rfl)))
            · obtain ⟨x, rfl⟩ := upd_of (show x 13 = .int .i64 (50 + y2) from hd 13 _ (by simp) rfl)
              obtain ⟨x, rfl⟩ := upd_of (show x 17 = .int .i64 (y0 / 8) from hd 17 _ (by simp) rfl)
              show wpOp Try.prog _ _ 18 K (⟨#[s 0, .pointer (some ⟨w.heap.size, 0, none⟩), .pointer (some ⟨(w.heap.size + 1), 0, none⟩), .pointer (some ⟨(w.heap.size + 1 + 1), 0, none⟩), .int .i64 (k : Int), .pointer (some ⟨wr.heap.size, 0, none⟩), x 43, undef, undef, undef, s 10, r 11, r 12, r 13, r 14, r 15, r 16, r 17, r 18, r 19, r 20, r 21, r 22, r 23, r 24, r 25, r 26, r 27, r 28, r 29, r 30, r 31, r 32, r 33, r 34, r 35, r 36, r 37, r 38, x 0, x 1, x 2, x 3, x 4, x 5, x 6, x 7, x 8, x 9, x 10, x 11, x 12, .int .i64 (50 + y2), x 14, x 15, x 16, .int .i64 (y0 / 8), x 18, x 19, x 20, x 21, x 22, x 23, x 24, x 25, x 26, x 27, x 28, x 29, x 30, x 31, x 32, x 33, x 34, x 35, x 36, x 37, x 38, x 39, x 40, x 41, x 42, r 82, r 83, r 84, r 85, r 86, r 87, r 88, r 89, r 90, r 91, r 92, r 93, r 94, r 95, undef, undef, undef, undef, undef, undef, undef, undef, undef, undef, undef, undef, undef, undef, undef, undef, undef, undef, undef, undef, undef, undef, undef, undef, undef, undef, undef, undef, undef, undef, undef, undef, undef, undef, undef, undef, undef, undef, undef, undef, undef, undef, undef, undef, undef, undef, undef, undef, undef, undef, undef, undef, undef, undef, undef, undef, undef, undef, undef, undef, undef, undef, undef], []⟩ : Act) v
              refine wpOp_step rfl (fun K' hK' => ?_)
              go_simp
              exact hK' _ _ (hK _ _ (Below.refl _ _) (at_of rfl (rfl)))
            · obtain ⟨x, rfl⟩ := upd_of (show x 9 = .int .i64 (50 + y2) from hd 9 _ (by simp) rfl)
              obtain ⟨x, rfl⟩ := upd_of (show x 18 = .int .i64 ((50 + y2) + (y0 / 8)) from hd 18 _ (by simp) rfl)
              show wpOp Try.prog _ _ 19 K (⟨#[s 0, .pointer (some ⟨w.heap.size, 0, none⟩), .pointer (some ⟨(w.heap.size + 1), 0, none⟩), .pointer (some ⟨(w.heap.size + 1 + 1), 0, none⟩), .int .i64 (k : Int), .pointer (some ⟨wr.heap.size, 0, none⟩), x 43, undef, undef, undef, s 10, r 11, r 12, r 13, r 14, r 15, r 16, r 17, r 18, r 19, r 20, r 21, r 22, r 23, r 24, r 25, r 26, r 27, r 28, r 29, r 30, r 31, r 32, r 33, r 34, r 35, r 36, r 37, r 38, x 0, x 1, x 2, x 3, x 4, x 5, x 6, x 7, x 8, .int .i64 (50 + y2), x 10, x 11, x 12, x 13, x 14, x 15, x 16, x 17, .int .i64 ((50 + y2) + (y0 / 8)), x 19, x 20, x 21, x 22, x 23, x 24, x 25, x 26, x 27, x 28, x 29, x 30, x 31, x 32, x 33, x 34, x 35, x 36, x 37, x 38, x 39, x 40, x 41, x 42, r 82, r 83, r 84, r 85, r 86, r 87, r 88, r 89, r 90, r 91, r 92, r 93, r 94, r 95, undef, undef, undef, undef, undef, undef, undef, undef, undef, undef, undef, undef, undef, undef, undef, undef, undef, undef, undef, undef, undef, undef, undef, undef, undef, undef, undef, undef, undef, undef, undef, undef, undef, undef, undef, undef, undef, undef, undef, undef, undef, undef, undef, undef, undef, undef, undef, undef, undef, undef, undef, undef, undef, undef, undef, undef, undef, undef, undef, undef, undef, undef, undef], []⟩ : Act) v
              refine wpOp_step rfl (fun K' hK' => ?_)
              go_simp
              refine (armSpan_anyT (50 + y2) ((50 + y2) + (y0 / 8)) v).mono ?_
              rintro e v' ⟨rfl, hg⟩
              exact hK' _ _ (hK _ _ hg (at_of rfl (rfl)))
            · show wpOp Try.prog _ _ 20 K (⟨#[s 0, .pointer (some ⟨w.heap.size, 0, none⟩), .pointer (some ⟨(w.heap.size + 1), 0, none⟩), .pointer (some ⟨(w.heap.size + 1 + 1), 0, none⟩), .int .i64 (k : Int), .pointer (some ⟨wr.heap.size, 0, none⟩), x 43, undef, undef, undef, s 10, r 11, r 12, r 13, r 14, r 15, r 16, r 17, r 18, r 19, r 20, r 21, r 22, r 23, r 24, r 25, r 26, r 27, r 28, r 29, r 30, r 31, r 32, r 33, r 34, r 35, r 36, r 37, r 38, x 0, x 1, x 2, x 3, x 4, x 5, x 6, x 7, x 8, x 9, x 10, x 11, x 12, x 13, x 14, x 15, x 16, x 17, x 18, x 19, x 20, x 21, x 22, x 23, x 24, x 25, x 26, x 27, x 28, x 29, x 30, x 31, x 32, x 33, x 34, x 35, x 36, x 37, x 38, x 39, x 40, x 41, x 42, r 82, r 83, r 84, r 85, r 86, r 87, r 88, r 89, r 90, r 91, r 92, r 93, r 94, r 95, undef, undef, undef, undef, undef, undef, undef, undef, undef, undef, undef, undef, undef, undef, undef, undef, undef, undef, undef, undef, undef, undef, undef, undef, undef, undef, undef, undef, undef, undef, undef, undef, undef, undef, undef, undef, undef, undef, undef, undef, undef, undef, undef, undef, undef, undef, undef, undef, undef, undef, undef, undef, undef, undef, undef, undef, undef, undef, undef, undef, undef, undef, undef], []⟩ : Act) v
              refine wpOp_step rfl (fun K' hK' => ?_)
              go_simp
              exact hK' _ _ (hK _ _ (Below.refl _ _) (at_of rfl (rfl)))
            · obtain ⟨x, rfl⟩ := upd_of (show x 20 = .pointer (some ⟨wr.heap.size, 3, none⟩) from hd 20 _ (by simp) rfl)
              show wpOp Try.prog _ _ 21 K (⟨#[s 0, .pointer (some ⟨w.heap.size, 0, none⟩), .pointer (some ⟨(w.heap.size + 1), 0, none⟩), .pointer (some ⟨(w.heap.size + 1 + 1), 0, none⟩), .int .i64 (k : Int), .pointer (some ⟨wr.heap.size, 0, none⟩), x 43, undef, undef, undef, s 10, r 11, r 12, r 13, r 14, r 15, r 16, r 17, r 18, r 19, r 20, r 21, r 22, r 23, r 24, r 25, r 26, r 27, r 28, r 29, r 30, r 31, r 32, r 33, r 34, r 35, r 36, r 37, r 38, x 0, x 1, x 2, x 3, x 4, x 5, x 6, x 7, x 8, x 9, x 10, x 11, x 12, x 13, x 14, x 15, x 16, x 17, x 18, x 19, .pointer (some ⟨wr.heap.size, 3, none⟩), x 21, x 22, x 23, x 24, x 25, x 26, x 27, x 28, x 29, x 30, x 31, x 32, x 33, x 34, x 35, x 36, x 37, x 38, x 39, x 40, x 41, x 42, r 82, r 83, r 84, r 85, r 86, r 87, r 88, r 89, r 90, r 91, r 92, r 93, r 94, r 95, undef, undef, undef, undef, undef, undef, undef, undef, undef, undef, undef, undef, undef, undef, undef, undef, undef, undef, undef, undef, undef, undef, undef, undef, undef, undef, undef, undef, undef, undef, undef, undef, undef, undef, undef, undef, undef, undef, undef, undef, undef, undef, undef, undef, undef, undef, undef, undef, undef, undef, undef, undef, undef, undef, undef, undef, undef, undef, undef, undef, undef, undef, undef], []⟩ : Act) v
              refine wpOp_step rfl (fun K' hK' => ?_)
              have q := (ov.1.keep gv).2 3 _ rfl
              go_simp
              exact hK' _ _ (hK _ _ (Below.refl _ _) (at_of rfl (rfl)))
            · obtain ⟨x, rfl⟩ := upd_of (show x 21 = .int .u8 y3 from hd 21 _ (by simp) rfl)
              show wpOp Try.prog _ _ 22 K (⟨#[s 0, .pointer (some ⟨w.heap.size, 0, none⟩), .pointer (some ⟨(w.heap.size + 1), 0, none⟩), .pointer (some ⟨(w.heap.size + 1 + 1), 0, none⟩), .int .i64 (k : Int), .pointer (some ⟨wr.heap.size, 0, none⟩), x 43, undef, undef, undef, s 10, r 11, r 12, r 13, r 14, r 15, r 16, r 17, r 18, r 19, r 20, r 21, r 22, r 23, r 24, r 25, r 26, r 27, r 28, r 29, r 30, r 31, r 32, r 33, r 34, r 35, r 36, r 37, r 38, x 0, x 1, x 2, x 3, x 4, x 5, x 6, x 7, x 8, x 9, x 10, x 11, x 12, x 13, x 14, x 15, x 16, x 17, x 18, x 19, x 20, .int .u8 y3, x 22, x 23, x 24, x 25, x 26, x 27, x 28, x 29, x 30, x 31, x 32, x 33, x 34, x 35, x 36, x 37, x 38, x 39, x 40, x 41, x 42, r 82, r 83, r 84, r 85, r 86, r 87, r 88, r 89, r 90, r 91, r 92, r 93, r 94, r 95, undef, undef, undef, undef, undef, undef, undef, undef, undef, undef, undef, undef, undef, undef, undef, undef, undef, undef, undef, undef, undef, undef, undef, undef, undef, undef, undef, undef, undef, undef, undef, undef, undef, undef, undef, undef, undef, undef, undef, undef, undef, undef, undef, undef, undef, undef, undef, undef, undef, undef, undef, undef, undef, undef, undef, undef, undef, undef, undef, undef, undef, undef, undef], []⟩ : Act) v
              refine wpOp_step rfl (fun K' hK' => ?_)
              go_simp
              exact hK' _ _ (hK _ _ (Below.refl _ _) (at_of rfl (rfl)))
            · obtain ⟨x, rfl⟩ := upd_of (show x 22 = .int .i64 y3 from hd 22 _ (by simp) rfl)
              show wpOp Try.prog _ _ 23 K (⟨#[s 0, .pointer (some ⟨w.heap.size, 0, none⟩), .pointer (some ⟨(w.heap.size + 1), 0, none⟩), .pointer (some ⟨(w.heap.size + 1 + 1), 0, none⟩), .int .i64 (k : Int), .pointer (some ⟨wr.heap.size, 0, none⟩), x 43, undef, undef, undef, s 10, r 11, r 12, r 13, r 14, r 15, r 16, r 17, r 18, r 19, r 20, r 21, r 22, r 23, r 24, r 25, r 26, r 27, r 28, r 29, r 30, r 31, r 32, r 33, r 34, r 35, r 36, r 37, r 38, x 0, x 1, x 2, x 3, x 4, x 5, x 6, x 7, x 8, x 9, x 10, x 11, x 12, x 13, x 14, x 15, x 16, x 17, x 18, x 19, x 20, x 21, .int .i64 y3, x 23, x 24, x 25, x 26, x 27, x 28, x 29, x 30, x 31, x 32, x 33, x 34, x 35, x 36, x 37, x 38, x 39, x 40, x 41, x 42, r 82, r 83, r 84, r 85, r 86, r 87, r 88, r 89, r 90, r 91, r 92, r 93, r 94, r 95, undef, undef, undef, undef, undef, undef, undef, undef, undef, undef, undef, undef, undef, undef, undef, undef, undef, undef, undef, undef, undef, undef, undef, undef, undef, undef, undef, undef, undef, undef, undef, undef, undef, undef, undef, undef, undef, undef, undef, undef, undef, undef, undef, undef, undef, undef, undef, undef, undef, undef, undef, undef, undef, undef, undef, undef, undef, undef, undef, undef, undef, undef, undef], []⟩ : Act) v
              refine wpOp_step rfl (fun K' hK' => ?_)
              go_simp
              exact hK' _ _ (hK _ _ (Below.refl _ _) (at_of rfl (rfl)))
            · show wpOp Try.prog _ _ 24 K (⟨#[s 0, .pointer (some ⟨w.heap.size, 0, none⟩), .pointer (some ⟨(w.heap.size + 1), 0, none⟩), .pointer (some ⟨(w.heap.size + 1 + 1), 0, none⟩), .int .i64 (k : Int), .pointer (some ⟨wr.heap.size, 0, none⟩), x 43, undef, undef, undef, s 10, r 11, r 12, r 13, r 14, r 15, r 16, r 17, r 18, r 19, r 20, r 21, r 22, r 23, r 24, r 25, r 26, r 27, r 28, r 29, r 30, r 31, r 32, r 33, r 34, r 35, r 36, r 37, r 38, x 0, x 1, x 2, x 3, x 4, x 5, x 6, x 7, x 8, x 9, x 10, x 11, x 12, x 13, x 14, x 15, x 16, x 17, x 18, x 19, x 20, x 21, x 22, x 23, x 24, x 25, x 26, x 27, x 28, x 29, x 30, x 31, x 32, x 33, x 34, x 35, x 36, x 37, x 38, x 39, x 40, x 41, x 42, r 82, r 83, r 84, r 85, r 86, r 87, r 88, r 89, r 90, r 91, r 92, r 93, r 94, r 95, undef, undef, undef, undef, undef, undef, undef, undef, undef, undef, undef, undef, undef, undef, undef, undef, undef, undef, undef, undef, undef, undef, undef, undef, undef, undef, undef, undef, undef, undef, undef, undef, undef, undef, undef, undef, undef, undef, undef, undef, undef, undef, undef, undef, undef, undef, undef, undef, undef, undef, undef, undef, undef, undef, undef, undef, undef, undef, undef, undef, undef, undef, undef], []⟩ : Act) v
              refine wpOp_step rfl (fun K' hK' => ?_)
              go_simp
              exact hK' _ _ (hK _ _ (Below.refl _ _) (at_of rfl (rfl)))
            · obtain ⟨x, rfl⟩ := upd_of (show x 24 = .pointer (some ⟨wr.heap.size, 3, none⟩) from hd 24 _ (by simp) rfl)
              show wpOp Try.prog _ _ 25 K (⟨#[s 0, .pointer (some ⟨w.heap.size, 0, none⟩), .pointer (some ⟨(w.heap.size + 1), 0, none⟩), .pointer (some ⟨(w.heap.size + 1 + 1), 0, none⟩), .int .i64 (k : Int), .pointer (some ⟨wr.heap.size, 0, none⟩), x 43, undef, undef, undef, s 10, r 11, r 12, r 13, r 14, r 15, r 16, r 17, r 18, r 19, r 20, r 21, r 22, r 23, r 24, r 25, r 26, r 27, r 28, r 29, r 30, r 31, r 32, r 33, r 34, r 35, r 36, r 37, r 38, x 0, x 1, x 2, x 3, x 4, x 5, x 6, x 7, x 8, x 9, x 10, x 11, x 12, x 13, x 14, x 15, x 16, x 17, x 18, x 19, x 20, x 21, x 22, x 23, .pointer (some ⟨wr.heap.size, 3, none⟩), x 25, x 26, x 27, x 28, x 29, x 30, x 31, x 32, x 33, x 34, x 35, x 36, x 37, x 38, x 39, x 40, x 41, x 42, r 82, r 83, r 84, r 85, r 86, r 87, r 88, r 89, r 90, r 91, r 92, r 93, r 94, r 95, undef, undef, undef, undef, undef, undef, undef, undef, undef, undef, undef, undef, undef, undef, undef, undef, undef, undef, undef, undef, undef, undef, undef, undef, undef, undef, undef, undef, undef, undef, undef, undef, undef, undef, undef, undef, undef, undef, undef, undef, undef, undef, undef, undef, undef, undef, undef, undef, undef, undef, undef, undef, undef, undef, undef, undef, undef, undef, undef, undef, undef, undef, undef], []⟩ : Act) v
              refine wpOp_step rfl (fun K' hK' => ?_)
              have q := (ov.1.keep gv).2 3 _ rfl
              go_simp
              exact hK' _ _ (hK _ _ (Below.refl _ _) (at_of rfl (rfl)))
            · obtain ⟨x, rfl⟩ := upd_of (show x 25 = .int .u8 y3 from hd 25 _ (by simp) rfl)
              show wpOp Try.prog _ _ 26 K (⟨#[s 0, .pointer (some ⟨w.heap.size, 0, none⟩), .pointer (some ⟨(w.heap.size + 1), 0, none⟩), .pointer (some ⟨(w.heap.size + 1 + 1), 0, none⟩), .int .i64 (k : Int), .pointer (some ⟨wr.heap.size, 0, none⟩), x 43, undef, undef, undef, s 10, r 11, r 12, r 13, r 14, r 15, r 16, r 17, r 18, r 19, r 20, r 21, r 22, r 23, r 24, r 25, r 26, r 27, r 28, r 29, r 30, r 31, r 32, r 33, r 34, r 35, r 36, r 37, r 38, x 0, x 1, x 2, x 3, x 4, x 5, x 6, x 7, x 8, x 9, x 10, x 11, x 12, x 13, x 14, x 15, x 16, x 17, x 18, x 19, x 20, x 21, x 22, x 23, x 24, .int .u8 y3, x 26, x 27, x 28, x 29, x 30, x 31, x 32, x 33, x 34, x 35, x 36, x 37, x 38, x 39, x 40, x 41, x 42, r 82, r 83, r 84, r 85, r 86, r 87, r 88, r 89, r 90, r 91, r 92, r 93, r 94, r 95, undef, undef, undef, undef, undef, undef, undef, undef, undef, undef, undef, undef, undef, undef, undef, undef, undef, undef, undef, undef, undef, undef, undef, undef, undef, undef, undef, undef, undef, undef, undef, undef, undef, undef, undef, undef, undef, undef, undef, undef, undef, undef, undef, undef, undef, undef, undef, undef, undef, undef, undef, undef, undef, undef, undef, undef, undef, undef, undef, undef, undef, undef, undef], []⟩ : Act) v
              refine wpOp_step rfl (fun K' hK' => ?_)
              go_simp
              exact hK' _ _ (hK _ _ (Below.refl _ _) (at_of rfl (rfl)))
            · obtain ⟨x, rfl⟩ := upd_of (show x 26 = .int .i64 y3 from hd 26 _ (by simp) rfl)
              show wpOp Try.prog _ _ 27 K (⟨#[s 0, .pointer (some ⟨w.heap.size, 0, none⟩), .pointer (some ⟨(w.heap.size + 1), 0, none⟩), .pointer (some ⟨(w.heap.size + 1 + 1), 0, none⟩), .int .i64 (k : Int), .pointer (some ⟨wr.heap.size, 0, none⟩), x 43, undef, undef, undef, s 10, r 11, r 12, r 13, r 14, r 15, r 16, r 17, r 18, r 19, r 20, r 21, r 22, r 23, r 24, r 25, r 26, r 27, r 28, r 29, r 30, r 31, r 32, r 33, r 34, r 35, r 36, r 37, r 38, x 0, x 1, x 2, x 3, x 4, x 5, x 6, x 7, x 8, x 9, x 10, x 11, x 12, x 13, x 14, x 15, x 16, x 17, x 18, x 19, x 20, x 21, x 22, x 23, x 24, x 25, .int .i64 y3, x 27, x 28, x 29, x 30, x 31, x 32, x 33, x 34, x 35, x 36, x 37, x 38, x 39, x 40, x 41, x 42, r 82, r 83, r 84, r 85, r 86, r 87, r 88, r 89, r 90, r 91, r 92, r 93, r 94, r 95, undef, undef, undef, undef, undef, undef, undef, undef, undef, undef, undef, undef, undef, undef, undef, undef, undef, undef, undef, undef, undef, undef, undef, undef, undef, undef, undef, undef, undef, undef, undef, undef, undef, undef, undef, undef, undef, undef, undef, undef, undef, undef, undef, undef, undef, undef, undef, undef, undef, undef, undef, undef, undef, undef, undef, undef, undef, undef, undef, undef, undef, undef, undef], []⟩ : Act) v
              refine wpOp_step rfl (fun K' hK' => ?_)
              go_simp
              exact hK' _ _ (hK _ _ (Below.refl _ _) (at_of rfl (rfl)))
            · show wpOp Try.prog _ _ 28 K (⟨#[s 0, .pointer (some ⟨w.heap.size, 0, none⟩), .pointer (some ⟨(w.heap.size + 1), 0, none⟩), .pointer (some ⟨(w.heap.size + 1 + 1), 0, none⟩), .int .i64 (k : Int), .pointer (some ⟨wr.heap.size, 0, none⟩), x 43, undef, undef, undef, s 10, r 11, r 12, r 13, r 14, r 15, r 16, r 17, r 18, r 19, r 20, r 21, r 22, r 23, r 24, r 25, r 26, r 27, r 28, r 29, r 30, r 31, r 32, r 33, r 34, r 35, r 36, r 37, r 38, x 0, x 1, x 2, x 3, x 4, x 5, x 6, x 7, x 8, x 9, x 10, x 11, x 12, x 13, x 14, x 15, x 16, x 17, x 18, x 19, x 20, x 21, x 22, x 23, x 24, x 25, x 26, x 27, x 28, x 29, x 30, x 31, x 32, x 33, x 34, x 35, x 36, x 37, x 38, x 39, x 40, x 41, x 42, r 82, r 83, r 84, r 85, r 86, r 87, r 88, r 89, r 90, r 91, r 92, r 93, r 94, r 95, undef, undef, undef, undef, undef, undef, undef, undef, undef, undef, undef, undef, undef, undef, undef, undef, undef, undef, undef, undef, undef, undef, undef, undef, undef, undef, undef, undef, undef, undef, undef, undef, undef, undef, undef, undef, undef, undef, undef, undef, undef, undef, undef, undef, undef, undef, undef, undef, undef, undef, undef, undef, undef, undef, undef, undef, undef, undef, undef, undef, undef, undef, undef], []⟩ : Act) v
              refine wpOp_step rfl (fun K' hK' => ?_)
              go_simp
              exact hK' _ _ (hK _ _ (Below.refl _ _) (at_of rfl (rfl)))
            · obtain ⟨x, rfl⟩ := upd_of (show x 28 = .pointer (some ⟨wr.heap.size, 3, none⟩) from hd 28 _ (by simp) rfl)
              show wpOp Try.prog _ _ 29 K (⟨#[s 0, .pointer (some ⟨w.heap.size, 0, none⟩), .pointer (some ⟨(w.heap.size + 1), 0, none⟩), .pointer (some ⟨(w.heap.size + 1 + 1), 0, none⟩), .int .i64 (k : Int), .pointer (some ⟨wr.heap.size, 0, none⟩), x 43, undef, undef, undef, s 10, r 11, r 12, r 13, r 14, r 15, r 16, r 17, r 18, r 19, r 20, r 21, r 22, r 23, r 24, r 25, r 26, r 27, r 28, r 29, r 30, r 31, r 32, r 33, r 34, r 35, r 36, r 37, r 38, x 0, x 1, x 2, x 3, x 4, x 5, x 6, x 7, x 8, x 9, x 10, x 11, x 12, x 13, x 14, x 15, x 16, x 17, x 18, x 19, x 20, x 21, x 22, x 23, x 24, x 25, x 26, x 27, .pointer (some ⟨wr.heap.size, 3, none⟩), x 29, x 30, x 31, x 32, x 33, x 34, x 35, x 36, x 37, x 38, x 39, x 40, x 41, x 42, r 82, r 83, r 84, r 85, r 86, r 87, r 88, r 89, r 90, r 91, r 92, r 93, r 94, r 95, undef, undef, undef, undef, undef, undef, undef, undef, undef, undef, undef, undef, undef, undef, undef, undef, undef, undef, undef, undef, undef, undef, undef, undef, undef, undef, undef, undef, undef, undef, undef, undef, undef, undef, undef, undef, undef, undef, undef, undef, undef, undef, undef, undef, undef, undef, undef, undef, undef, undef, undef, undef, undef, undef, undef, undef, undef, undef, undef, undef, undef, undef, undef], []⟩ : Act) v
              refine wpOp_step rfl (fun K' hK' => ?_)
              have q := (ov.1.keep gv).2 3 _ rfl
              go_simp
              exact hK' _ _ (hK _ _ (Below.refl _ _) (at_of rfl (rfl)))
            · obtain ⟨x, rfl⟩ := upd_of (show x 29 = .int .u8 y3 from hd 29 _ (by simp) rfl)
              show wpOp Try.prog _ _ 30 K (⟨#[s 0, .pointer (some ⟨w.heap.size, 0, none⟩), .pointer (some ⟨(w.heap.size + 1), 0, none⟩), .pointer (some ⟨(w.heap.size + 1 + 1), 0, none⟩), .int .i64 (k : Int), .pointer (some ⟨wr.heap.size, 0, none⟩), x 43, undef, undef, undef, s 10, r 11, r 12, r 13, r 14, r 15, r 16, r 17, r 18, r 19, r 20, r 21, r 22, r 23, r 24, r 25, r 26, r 27, r 28, r 29, r 30, r 31, r 32, r 33, r 34, r 35, r 36, r 37, r 38, x 0, x 1, x 2, x 3, x 4, x 5, x 6, x 7, x 8, x 9, x 10, x 11, x 12, x 13, x 14, x 15, x 16, x 17, x 18, x 19, x 20, x 21, x 22, x 23, x 24, x 25, x 26, x 27, x 28, .int .u8 y3, x 30, x 31, x 32, x 33, x 34, x 35, x 36, x 37, x 38, x 39, x 40, x 41, x 42, r 82, r 83, r 84, r 85, r 86, r 87, r 88, r 89, r 90, r 91, r 92, r 93, r 94, r 95, undef, undef, undef, undef, undef, undef, undef, undef, undef, undef, undef, undef, undef, undef, undef, undef, undef, undef, undef, undef, undef, undef, undef, undef, undef, undef, undef, undef, undef, undef, undef, undef, undef, undef, undef, undef, undef, undef, undef, undef, undef, undef, undef, undef, undef, undef, undef, undef, undef, undef, undef, undef, undef, undef, undef, undef, undef, undef, undef, undef, undef, undef, undef], []⟩ : Act) v
              refine wpOp_step rfl (fun K' hK' => ?_)
              go_simp
              exact hK' _ _ (hK _ _ (Below.refl _ _) (at_of rfl (rfl)))
            · obtain ⟨x, rfl⟩ := upd_of (show x 30 = .int .i64 y3 from hd 30 _ (by simp) rfl)
              show wpOp Try.prog _ _ 31 K (⟨#[s 0, .pointer (some ⟨w.heap.size, 0, none⟩), .pointer (some ⟨(w.heap.size + 1), 0, none⟩), .pointer (some ⟨(w.heap.size + 1 + 1), 0, none⟩), .int .i64 (k : Int), .pointer (some ⟨wr.heap.size, 0, none⟩), x 43, undef, undef, undef, s 10, r 11, r 12, r 13, r 14, r 15, r 16, r 17, r 18, r 19, r 20, r 21, r 22, r 23, r 24, r 25, r 26, r 27, r 28, r 29, r 30, r 31, r 32, r 33, r 34, r 35, r 36, r 37, r 38, x 0, x 1, x 2, x 3, x 4, x 5, x 6, x 7, x 8, x 9, x 10, x 11, x 12, x 13, x 14, x 15, x 16, x 17, x 18, x 19, x 20, x 21, x 22, x 23, x 24, x 25, x 26, x 27, x 28, x 29, .int .i64 y3, x 31, x 32, x 33, x 34, x 35, x 36, x 37, x 38, x 39, x 40, x 41, x 42, r 82, r 83, r 84, r 85, r 86, r 87, r 88, r 89, r 90, r 91, r 92, r 93, r 94, r 95, undef, undef, undef, undef, undef, undef, undef, undef, undef, undef, undef, undef, undef, undef, undef, undef, undef, undef, undef, undef, undef, undef, undef, undef, undef, undef, undef, undef, undef, undef, undef, undef, undef, undef, undef, undef, undef, undef, undef, undef, undef, undef, undef, undef, undef, undef, undef, undef, undef, undef, undef, undef, undef, undef, undef, undef, undef, undef, undef, undef, undef, undef, undef], []⟩ : Act) v
              refine wpOp_step rfl (fun K' hK' => ?_)
              go_simp
              exact hK' _ _ (hK _ _ (Below.refl _ _) (at_of rfl (rfl)))
            · obtain ⟨x, rfl⟩ := upd_of (show x 27 = .int .i64 (y3 % 100) from hd 27 _ (by simp) rfl)
              obtain ⟨x, rfl⟩ := upd_of (show x 31 = .int .i64 (y3 / 16) from hd 31 _ (by simp) rfl)
              show wpOp Try.prog _ _ 32 K (⟨#[s 0, .pointer (some ⟨w.heap.size, 0, none⟩), .pointer (some ⟨(w.heap.size + 1), 0, none⟩), .pointer (some ⟨(w.heap.size + 1 + 1), 0, none⟩), .int .i64 (k : Int), .pointer (some ⟨wr.heap.size, 0, none⟩), x 43, undef, undef, undef, s 10, r 11, r 12, r 13, r 14, r 15, r 16, r 17, r 18, r 19, r 20, r 21, r 22, r 23, r 24, r 25, r 26, r 27, r 28, r 29, r 30, r 31, r 32, r 33, r 34, r 35, r 36, r 37, r 38, x 0, x 1, x 2, x 3, x 4, x 5, x 6, x 7, x 8, x 9, x 10, x 11, x 12, x 13, x 14, x 15, x 16, x 17, x 18, x 19, x 20, x 21, x 22, x 23, x 24, x 25, x 26, .int .i64 (y3 % 100), x 28, x 29, x 30, .int .i64 (y3 / 16), x 32, x 33, x 34, x 35, x 36, x 37, x 38, x 39, x 40, x 41, x 42, r 82, r 83, r 84, r 85, r 86, r 87, r 88, r 89, r 90, r 91, r 92, r 93, r 94, r 95, undef, undef, undef, undef, undef, undef, undef, undef, undef, undef, undef, undef, undef, undef, undef, undef, undef, undef, undef, undef, undef, undef, undef, undef, undef, undef, undef, undef, undef, undef, undef, undef, undef, undef, undef, undef, undef, undef, undef, undef, undef, undef, undef, undef, undef, undef, undef, undef, undef, undef, undef, undef, undef, undef, undef, undef, undef, undef, undef, undef, undef, undef, undef], []⟩ : Act) v
              refine wpOp_step rfl (fun K' hK' => ?_)
              go_simp
              exact hK' _ _ (hK _ _ (Below.refl _ _) (at_of rfl (rfl)))
            · obtain ⟨x, rfl⟩ := upd_of (show x 23 = .int .i64 (y3 % 100) from hd 23 _ (by simp) rfl)
              obtain ⟨x, rfl⟩ := upd_of (show x 32 = .int .i64 ((y3 % 100) + (y3 / 16)) from hd 32 _ (by simp) rfl)
              show wpOp Try.prog _ _ 33 K (⟨#[s 0, .pointer (some ⟨w.heap.size, 0, none⟩), .pointer (some ⟨(w.heap.size + 1), 0, none⟩), .pointer (some ⟨(w.heap.size + 1 + 1), 0, none⟩), .int .i64 (k : Int), .pointer (some ⟨wr.heap.size, 0, none⟩), x 43, undef, undef, undef, s 10, r 11, r 12, r 13, r 14, r 15, r 16, r 17, r 18, r 19, r 20, r 21, r 22, r 23, r 24, r 25, r 26, r 27, r 28, r 29, r 30, r 31, r 32, r 33, r 34, r 35, r 36, r 37, r 38, x 0, x 1, x 2, x 3, x 4, x 5, x 6, x 7, x 8, x 9, x 10, x 11, x 12, x 13, x 14, x 15, x 16, x 17, x 18, x 19, x 20, x 21, x 22, .int .i64 (y3 % 100), x 24, x 25, x 26, x 27, x 28, x 29, x 30, x 31, .int .i64 ((y3 % 100) + (y3 / 16)), x 33, x 34, x 35, x 36, x 37, x 38, x 39, x 40, x 41, x 42, r 82, r 83, r 84, r 85, r 86, r 87, r 88, r 89, r 90, r 91, r 92, r 93, r 94, r 95, undef, undef, undef, undef, undef, undef, undef, undef, undef, undef, undef, undef, undef, undef, undef, undef, undef, undef, undef, undef, undef, undef, undef, undef, undef, undef, undef, undef, undef, undef, undef, undef, undef, undef, undef, undef, undef, undef, undef, undef, undef, undef, undef, undef, undef, undef, undef, undef, undef, undef, undef, undef, undef, undef, undef, undef, undef, undef, undef, undef, undef, undef, undef], []⟩ : Act) v
              refine wpOp_step rfl (fun K' hK' => ?_)
              go_simp
              refine (armSpan_anyT (y3 % 100) ((y3 % 100) + (y3 / 16)) v).mono ?_
              rintro e v' ⟨rfl, hg⟩
              exact hK' _ _ (hK _ _ hg (at_of rfl (rfl)))
            · show wpOp Try.prog _ _ 34 K (⟨#[s 0, .pointer (some ⟨w.heap.size, 0, none⟩), .pointer (some ⟨(w.heap.size + 1), 0, none⟩), .pointer (some ⟨(w.heap.size + 1 + 1), 0, none⟩), .int .i64 (k : Int), .pointer (some ⟨wr.heap.size, 0, none⟩), x 43, undef, undef, undef, s 10, r 11, r 12, r 13, r 14, r 15, r 16, r 17, r 18, r 19, r 20, r 21, r 22, r 23, r 24, r 25, r 26, r 27, r 28, r 29, r 30, r 31, r 32, r 33, r 34, r 35, r 36, r 37, r 38, x 0, x 1, x 2, x 3, x 4, x 5, x 6, x 7, x 8, x 9, x 10, x 11, x 12, x 13, x 14, x 15, x 16, x 17, x 18, x 19, x 20, x 21, x 22, x 23, x 24, x 25, x 26, x 27, x 28, x 29, x 30, x 31, x 32, x 33, x 34, x 35, x 36, x 37, x 38, x 39, x 40, x 41, x 42, r 82, r 83, r 84, r 85, r 86, r 87, r 88, r 89, r 90, r 91, r 92, r 93, r 94, r 95, undef, undef, undef, undef, undef, undef, undef, undef, undef, undef, undef, undef, undef, undef, undef, undef, undef, undef, undef, undef, undef, undef, undef, undef, undef, undef, undef, undef, undef, undef, undef, undef, undef, undef, undef, undef, undef, undef, undef, undef, undef, undef, undef, undef, undef, undef, undef, undef, undef, undef, undef, undef, undef, undef, undef, undef, undef, undef, undef, undef, undef, undef, undef], []⟩ : Act) v
              refine wpOp_step rfl (fun K' hK' => ?_)
              go_simp
              exact hK' _ _ (hK _ _ (Below.refl _ _) (at_of rfl (rfl)))
            · obtain ⟨x, rfl⟩ := upd_of (show x 34 = .pointer (some ⟨wr.heap.size, 4, none⟩) from hd 34 _ (by simp) rfl)
              show wpOp Try.prog _ _ 35 K (⟨#[s 0, .pointer (some ⟨w.heap.size, 0, none⟩), .pointer (some ⟨(w.heap.size + 1), 0, none⟩), .pointer (some ⟨(w.heap.size + 1 + 1), 0, none⟩), .int .i64 (k : Int), .pointer (some ⟨wr.heap.size, 0, none⟩), x 43, undef, undef, undef, s 10, r 11, r 12, r 13, r 14, r 15, r 16, r 17, r 18, r 19, r 20, r 21, r 22, r 23, r 24, r 25, r 26, r 27, r 28, r 29, r 30, r 31, r 32, r 33, r 34, r 35, r 36, r 37, r 38, x 0, x 1, x 2, x 3, x 4, x 5, x 6, x 7, x 8, x 9, x 10, x 11, x 12, x 13, x 14, x 15, x 16, x 17, x 18, x 19, x 20, x 21, x 22, x 23, x 24, x 25, x 26, x 27, x 28, x 29, x 30, x 31, x 32, x 33, .pointer (some ⟨wr.heap.size, 4, none⟩), x 35, x 36, x 37, x 38, x 39, x 40, x 41, x 42, r 82, r 83, r 84, r 85, r 86, r 87, r 88, r 89, r 90, r 91, r 92, r 93, r 94, r 95, undef, undef, undef, undef, undef, undef, undef, undef, undef, undef, undef, undef, undef, undef, undef, undef, undef, undef, undef, undef, undef, undef, undef, undef, undef, undef, undef, undef, undef, undef, undef, undef, undef, undef, undef, undef, undef, undef, undef, undef, undef, undef, undef, undef, undef, undef, undef, undef, undef, undef, undef, undef, undef, undef, undef, undef, undef, undef, undef, undef, undef, undef, undef], []⟩ : Act) v
              refine wpOp_step rfl (fun K' hK' => ?_)
              have q := (ov.1.keep gv).2 4 _ rfl
              go_simp
              exact hK' _ _ (hK _ _ (Below.refl _ _) (at_of rfl (rfl)))
            · obtain ⟨x, rfl⟩ := upd_of (show x 35 = .int .u8 y4 from hd 35 _ (by simp) rfl)
              show wpOp Try.prog _ _ 36 K (⟨#[s 0, .pointer (some ⟨w.heap.size, 0, none⟩), .pointer (some ⟨(w.heap.size + 1), 0, none⟩), .pointer (some ⟨(w.heap.size + 1 + 1), 0, none⟩), .int .i64 (k : Int), .pointer (some ⟨wr.heap.size, 0, none⟩), x 43, undef, undef, undef, s 10, r 11, r 12, r 13, r 14, r 15, r 16, r 17, r 18, r 19, r 20, r 21, r 22, r 23, r 24, r 25, r 26, r 27, r 28, r 29, r 30, r 31, r 32, r 33, r 34, r 35, r 36, r 37, r 38, x 0, x 1, x 2, x 3, x 4, x 5, x 6, x 7, x 8, x 9, x 10, x 11, x 12, x 13, x 14, x 15, x 16, x 17, x 18, x 19, x 20, x 21, x 22, x 23, x 24, x 25, x 26, x 27, x 28, x 29, x 30, x 31, x 32, x 33, x 34, .int .u8 y4, x 36, x 37, x 38, x 39, x 40, x 41, x 42, r 82, r 83, r 84, r 85, r 86, r 87, r 88, r 89, r 90, r 91, r 92, r 93, r 94, r 95, undef, undef, undef, undef, undef, undef, undef, undef, undef, undef, undef, undef, undef, undef, undef, undef, undef, undef, undef, undef, undef, undef, undef, undef, undef, undef, undef, undef, undef, undef, undef, undef, undef, undef, undef, undef, undef, undef, undef, undef, undef, undef, undef, undef, undef, undef, undef, undef, undef, undef, undef, undef, undef, undef, undef, undef, undef, undef, undef, undef, undef, undef, undef], []⟩ : Act) v
              refine wpOp_step rfl (fun K' hK' => ?_)
              go_simp
              exact hK' _ _ (hK _ _ (Below.refl _ _) (at_of rfl (rfl)))
            · obtain ⟨x, rfl⟩ := upd_of (show x 36 = .int .i64 y4 from hd 36 _ (by simp) rfl)
              show wpOp Try.prog _ _ 37 K (⟨#[s 0, .pointer (some ⟨w.heap.size, 0, none⟩), .pointer (some ⟨(w.heap.size + 1), 0, none⟩), .pointer (some ⟨(w.heap.size + 1 + 1), 0, none⟩), .int .i64 (k : Int), .pointer (some ⟨wr.heap.size, 0, none⟩), x 43, undef, undef, undef, s 10, r 11, r 12, r 13, r 14, r 15, r 16, r 17, r 18, r 19, r 20, r 21, r 22, r 23, r 24, r 25, r 26, r 27, r 28, r 29, r 30, r 31, r 32, r 33, r 34, r 35, r 36, r 37, r 38, x 0, x 1, x 2, x 3, x 4, x 5, x 6, x 7, x 8, x 9, x 10, x 11, x 12, x 13, x 14, x 15, x 16, x 17, x 18, x 19, x 20, x 21, x 22, x 23, x 24, x 25, x 26, x 27, x 28, x 29, x 30, x 31, x 32, x 33, x 34, x 35, .int .i64 y4, x 37, x 38, x 39, x 40, x 41, x 42, r 82, r 83, r 84, r 85, r 86, r 87, r 88, r 89, r 90, r 91, r 92, r 93, r 94, r 95, undef, undef, undef, undef, undef, undef, undef, undef, undef, undef, undef, undef, undef, undef, undef, undef, undef, undef, undef, undef, undef, undef, undef, undef, undef, undef, undef, undef, undef, undef, undef, undef, undef, undef, undef, undef, undef, undef, undef, undef, undef, undef, undef, undef, undef, undef, undef, undef, undef, undef, undef, undef, undef, undef, undef, undef, undef, undef, undef, undef, undef, undef, undef], []⟩ : Act) v
              refine wpOp_step rfl (fun K' hK' => ?_)
              go_simp
              exact hK' _ _ (hK _ _ (Below.refl _ _) (at_of rfl (rfl)))
            · show wpOp Try.prog _ _ 38 K (⟨#[s 0, .pointer (some ⟨w.heap.size, 0, none⟩), .pointer (some ⟨(w.heap.size + 1), 0, none⟩), .pointer (some ⟨(w.heap.size + 1 + 1), 0, none⟩), .int .i64 (k : Int), .pointer (some ⟨wr.heap.size, 0, none⟩), x 43, undef, undef, undef, s 10, r 11, r 12, r 13, r 14, r 15, r 16, r 17, r 18, r 19, r 20, r 21, r 22, r 23, r 24, r 25, r 26, r 27, r 28, r 29, r 30, r 31, r 32, r 33, r 34, r 35, r 36, r 37, r 38, x 0, x 1, x 2, x 3, x 4, x 5, x 6, x 7, x 8, x 9, x 10, x 11, x 12, x 13, x 14, x 15, x 16, x 17, x 18, x 19, x 20, x 21, x 22, x 23, x 24, x 25, x 26, x 27, x 28, x 29, x 30, x 31, x 32, x 33, x 34, x 35, x 36, x 37, x 38, x 39, x 40, x 41, x 42, r 82, r 83, r 84, r 85, r 86, r 87, r 88, r 89, r 90, r 91, r 92, r 93, r 94, r 95, undef, undef, undef, undef, undef, undef, undef, undef, undef, undef, undef, undef, undef, undef, undef, undef, undef, undef, undef, undef, undef, undef, undef, undef, undef, undef, undef, undef, undef, undef, undef, undef, undef, undef, undef, undef, undef, undef, undef, undef, undef, undef, undef, undef, undef, undef, undef, undef, undef, undef, undef, undef, undef, undef, undef, undef, undef, undef, undef, undef, undef, undef, undef], []⟩ : Act) v
              refine wpOp_step rfl (fun K' hK' => ?_)
              go_simp
              exact hK' _ _ (hK _ _ (Below.refl _ _) (at_of rfl (rfl)))
            · obtain ⟨x, rfl⟩ := upd_of (show x 38 = .pointer (some ⟨wr.heap.size, 5, none⟩) from hd 38 _ (by simp) rfl)
              show wpOp Try.prog _ _ 39 K (⟨#[s 0, .pointer (some ⟨w.heap.size, 0, none⟩), .pointer (some ⟨(w.heap.size + 1), 0, none⟩), .pointer (some ⟨(w.heap.size + 1 + 1), 0, none⟩), .int .i64 (k : Int), .pointer (some ⟨wr.heap.size, 0, none⟩), x 43, undef, undef, undef, s 10, r 11, r 12, r 13, r 14, r 15, r 16, r 17, r 18, r 19, r 20, r 21, r 22, r 23, r 24, r 25, r 26, r 27, r 28, r 29, r 30, r 31, r 32, r 33, r 34, r 35, r 36, r 37, r 38, x 0, x 1, x 2, x 3, x 4, x 5, x 6, x 7, x 8, x 9, x 10, x 11, x 12, x 13, x 14, x 15, x 16, x 17, x 18, x 19, x 20, x 21, x 22, x 23, x 24, x 25, x 26, x 27, x 28, x 29, x 30, x 31, x 32, x 33, x 34, x 35, x 36, x 37, .pointer (some ⟨wr.heap.size, 5, none⟩), x 39, x 40, x 41, x 42, r 82, r 83, r 84, r 85, r 86, r 87, r 88, r 89, r 90, r 91, r 92, r 93, r 94, r 95, undef, undef, undef, undef, undef, undef, undef, undef, undef, undef, undef, undef, undef, undef, undef, undef, undef, undef, undef, undef, undef, undef, undef, undef, undef, undef, undef, undef, undef, undef, undef, undef, undef, undef, undef, undef, undef, undef, undef, undef, undef, undef, undef, undef, undef, undef, undef, undef, undef, undef, undef, undef, undef, undef, undef, undef, undef, undef, undef, undef, undef, undef, undef], []⟩ : Act) v
              refine wpOp_step rfl (fun K' hK' => ?_)
              have q := (ov.1.keep gv).2 5 _ rfl
              go_simp
              exact hK' _ _ (hK _ _ (Below.refl _ _) (at_of rfl (rfl)))
            · obtain ⟨x, rfl⟩ := upd_of (show x 39 = .int .u8 y5 from hd 39 _ (by simp) rfl)
              show wpOp Try.prog _ _ 40 K (⟨#[s 0, .pointer (some ⟨w.heap.size, 0, none⟩), .pointer (some ⟨(w.heap.size + 1), 0, none⟩), .pointer (some ⟨(w.heap.size + 1 + 1), 0, none⟩), .int .i64 (k : Int), .pointer (some ⟨wr.heap.size, 0, none⟩), x 43, undef, undef, undef, s 10, r 11, r 12, r 13, r 14, r 15, r 16, r 17, r 18, r 19, r 20, r 21, r 22, r 23, r 24, r 25, r 26, r 27, r 28, r 29, r 30, r 31, r 32, r 33, r 34, r 35, r 36, r 37, r 38, x 0, x 1, x 2, x 3, x 4, x 5, x 6, x 7, x 8, x 9, x 10, x 11, x 12, x 13, x 14, x 15, x 16, x 17, x 18, x 19, x 20, x 21, x 22, x 23, x 24, x 25, x 26, x 27, x 28, x 29, x 30, x 31, x 32, x 33, x 34, x 35, x 36, x 37, x 38, .int .u8 y5, x 40, x 41, x 42, r 82, r 83, r 84, r 85, r 86, r 87, r 88, r 89, r 90, r 91, r 92, r 93, r 94, r 95, undef, undef, undef, undef, undef, undef, undef, undef, undef, undef, undef, undef, undef, undef, undef, undef, undef, undef, undef, undef, undef, undef, undef, undef, undef, undef, undef, undef, undef, undef, undef, undef, undef, undef, undef, undef, undef, undef, undef, undef, undef, undef, undef, undef, undef, undef, undef, undef, undef, undef, undef, undef, undef, undef, undef, undef, undef, undef, undef, undef, undef, undef, undef], []⟩ : Act) v
              refine wpOp_step rfl (fun K' hK' => ?_)
              go_simp
              exact hK' _ _ (hK _ _ (Below.refl _ _) (at_of rfl (rfl)))
            · obtain ⟨x, rfl⟩ := upd_of (show x 40 = .int .i64 y5 from hd 40 _ (by simp) rfl)
              show wpOp Try.prog _ _ 41 K (⟨#[s 0, .pointer (some ⟨w.heap.size, 0, none⟩), .pointer (some ⟨(w.heap.size + 1), 0, none⟩), .pointer (some ⟨(w.heap.size + 1 + 1), 0, none⟩), .int .i64 (k : Int), .pointer (some ⟨wr.heap.size, 0, none⟩), x 43, undef, undef, undef, s 10, r 11, r 12, r 13, r 14, r 15, r 16, r 17, r 18, r 19, r 20, r 21, r 22, r 23, r 24, r 25, r 26, r 27, r 28, r 29, r 30, r 31, r 32, r 33, r 34, r 35, r 36, r 37, r 38, x 0, x 1, x 2, x 3, x 4, x 5, x 6, x 7, x 8, x 9, x 10, x 11, x 12, x 13, x 14, x 15, x 16, x 17, x 18, x 19, x 20, x 21, x 22, x 23, x 24, x 25, x 26, x 27, x 28, x 29, x 30, x 31, x 32, x 33, x 34, x 35, x 36, x 37, x 38, x 39, .int .i64 y5, x 41, x 42, r 82, r 83, r 84, r 85, r 86, r 87, r 88, r 89, r 90, r 91, r 92, r 93, r 94, r 95, undef, undef, undef, undef, undef, undef, undef, undef, undef, undef, undef, undef, undef, undef, undef, undef, undef, undef, undef, undef, undef, undef, undef, undef, undef, undef, undef, undef, undef, undef, undef, undef, undef, undef, undef, undef, undef, undef, undef, undef, undef, undef, undef, undef, undef, undef, undef, undef, undef, undef, undef, undef, undef, undef, undef, undef, undef, undef, undef, undef, undef, undef, undef], []⟩ : Act) v
              refine wpOp_step rfl (fun K' hK' => ?_)
              go_simp
              exact hK' _ _ (hK _ _ (Below.refl _ _) (at_of rfl (rfl)))
            · obtain ⟨x, rfl⟩ := upd_of (show x 1 = .int .i64 (1 + (k : Int)) from hd 1 _ (by simp) rfl)
              obtain ⟨x, rfl⟩ := upd_of (show x 5 = .int .i64 (50 + y1) from hd 5 _ (by simp) rfl)
              obtain ⟨x, rfl⟩ := upd_of (show x 19 = .agg #[.int .i64 (50 + y2), .int .i64 ((50 + y2) + (y0 / 8))] from hd 19 _ (by simp) rfl)
              obtain ⟨x, rfl⟩ := upd_of (show x 33 = .agg #[.int .i64 (y3 % 100), .int .i64 ((y3 % 100) + (y3 / 16))] from hd 33 _ (by simp) rfl)
              obtain ⟨x, rfl⟩ := upd_of (show x 37 = .int .i64 (1000 * y4) from hd 37 _ (by simp) rfl)
              obtain ⟨x, rfl⟩ := upd_of (show x 41 = .int .i64 (10 * y5) from hd 41 _ (by simp) rfl)
              show wpOp Try.prog _ _ 42 K (⟨#[s 0, .pointer (some ⟨w.heap.size, 0, none⟩), .pointer (some ⟨(w.heap.size + 1), 0, none⟩), .pointer (some ⟨(w.heap.size + 1 + 1), 0, none⟩), .int .i64 (k : Int), .pointer (some ⟨wr.heap.size, 0, none⟩), x 43, undef, undef, undef, s 10, r 11, r 12, r 13, r 14, r 15, r 16, r 17, r 18, r 19, r 20, r 21, r 22, r 23, r 24, r 25, r 26, r 27, r 28, r 29, r 30, r 31, r 32, r 33, r 34, r 35, r 36, r 37, r 38, x 0, .int .i64 (1 + (k : Int)), x 2, x 3, x 4, .int .i64 (50 + y1), x 6, x 7, x 8, x 9, x 10, x 11, x 12, x 13, x 14, x 15, x 16, x 17, x 18, .agg #[.int .i64 (50 + y2), .int .i64 ((50 + y2) + (y0 / 8))], x 20, x 21, x 22, x 23, x 24, x 25, x 26, x 27, x 28, x 29, x 30, x 31, x 32, .agg #[.int .i64 (y3 % 100), .int .i64 ((y3 % 100) + (y3 / 16))], x 34, x 35, x 36, .int .i64 (1000 * y4), x 38, x 39, x 40, .int .i64 (10 * y5), x 42, r 82, r 83, r 84, r 85, r 86, r 87, r 88, r 89, r 90, r 91, r 92, r 93, r 94, r 95, undef, undef, undef, undef, undef, undef, undef, undef, undef, undef, undef, undef, undef, undef, undef, undef, undef, undef, undef, undef, undef, undef, undef, undef, undef, undef, undef, undef, undef, undef, undef, undef, undef, undef, undef, undef, undef, undef, undef, undef, undef, undef, undef, undef, undef, undef, undef, undef, undef, undef, undef, undef, undef, undef, undef, undef, undef, undef, undef, undef, undef, undef, undef], []⟩ : Act) v
              refine wpOp_step rfl (fun K' hK' => ?_)
              go_simp
              exact hK' _ _ (hK _ _ (Below.refl _ _) (at_of rfl (rfl)))
            · show wpOp Try.prog _ _ 43 K (⟨#[s 0, .pointer (some ⟨w.heap.size, 0, none⟩), .pointer (some ⟨(w.heap.size + 1), 0, none⟩), .pointer (some ⟨(w.heap.size + 1 + 1), 0, none⟩), .int .i64 (k : Int), .pointer (some ⟨wr.heap.size, 0, none⟩), x 43, undef, undef, undef, s 10, r 11, r 12, r 13, r 14, r 15, r 16, r 17, r 18, r 19, r 20, r 21, r 22, r 23, r 24, r 25, r 26, r 27, r 28, r 29, r 30, r 31, r 32, r 33, r 34, r 35, r 36, r 37, r 38, x 0, x 1, x 2, x 3, x 4, x 5, x 6, x 7, x 8, x 9, x 10, x 11, x 12, x 13, x 14, x 15, x 16, x 17, x 18, x 19, x 20, x 21, x 22, x 23, x 24, x 25, x 26, x 27, x 28, x 29, x 30, x 31, x 32, x 33, x 34, x 35, x 36, x 37, x 38, x 39, x 40, x 41, x 42, r 82, r 83, r 84, r 85, r 86, r 87, r 88, r 89, r 90, r 91, r 92, r 93, r 94, r 95, undef, undef, undef, undef, undef, undef, undef, undef, undef, undef, undef, undef, undef, undef, undef, undef, undef, undef, undef, undef, undef, undef, undef, undef, undef, undef, undef, undef, undef, undef, undef, undef, undef, undef, undef, undef, undef, undef, undef, undef, undef, undef, undef, undef, undef, undef, undef, undef, undef, undef, undef, undef, undef, undef, undef, undef, undef, undef, undef, undef, undef, undef, undef], []⟩ : Act) v
              refine wpOp_step rfl (fun K' hK' => ?_)
              go_simp
              have hg := Gr.al v (.cells (List.toArray [.int .i64 0, .int .i64 0, .int .i64 0, .int .i64 0, .int .i64 0, .int .i64 0, .int .i64 0, .int .i64 0]) 174)
              exact hK' _ _ (hK _ _ hg (at_of rfl (⟨v.heap.size, rfl, gv.size, Own.new v [.int .i64 0, .int .i64 0, .int .i64 0, .int .i64 0, .int .i64 0, .int .i64 0, .int .i64 0, .int .i64 0] 174 v.heap.size rfl⟩)))
          case fin8 =>
            rintro x v gv hd
            obtain ⟨x, rfl⟩ := upd_of (show x 42 = .agg #[.int .i64 (1 + (k : Int)), .int .i64 (50 + y1), .int .i64 (50 + y2), .int .i64 ((50 + y2) + (y0 / 8)), .int .i64 (y3 % 100), .int .i64 ((y3 % 100) + (y3 / 16)), .int .i64 (1000 * y4), .int .i64 (10 * y5)] from hd 42 _ (by omega) rfl)
            obtain ⟨b6, e43, hb6, ow6⟩ := hd 43 _ (by omega) rfl
            obtain ⟨x, rfl⟩ := upd_of (show x 43 = .pointer (some ⟨b6, 0, none⟩) from e43)
            clear hd
            show wpList Try.prog _ _ (List.drop 44 _) (⟨#[s 0, .pointer (some ⟨w.heap.size, 0, none⟩), .pointer (some ⟨(w.heap.size + 1), 0, none⟩), .pointer (some ⟨(w.heap.size + 1 + 1), 0, none⟩), .int .i64 (k : Int), .pointer (some ⟨wr.heap.size, 0, none⟩), .pointer (some ⟨b6, 0, none⟩), undef, undef, undef, s 10, r 11, r 12, r 13, r 14, r 15, r 16, r 17, r 18, r 19, r 20, r 21, r 22, r 23, r 24, r 25, r 26, r 27, r 28, r 29, r 30, r 31, r 32, r 33, r 34, r 35, r 36, r 37, r 38, x 0, x 1, x 2, x 3, x 4, x 5, x 6, x 7, x 8, x 9, x 10, x 11, x 12, x 13, x 14, x 15, x 16, x 17, x 18, x 19, x 20, x 21, x 22, x 23, x 24, x 25, x 26, x 27, x 28, x 29, x 30, x 31, x 32, x 33, x 34, x 35, x 36, x 37, x 38, x 39, x 40, x 41, .agg #[.int .i64 (1 + (k : Int)), .int .i64 (50 + y1), .int .i64 (50 + y2), .int .i64 ((50 + y2) + (y0 / 8)), .int .i64 (y3 % 100), .int .i64 ((y3 % 100) + (y3 / 16)), .int .i64 (1000 * y4), .int .i64 (10 * y5)], r 82, r 83, r 84, r 85, r 86, r 87, r 88, r 89, r 90, r 91, r 92, r 93, r 94, r 95, undef, undef, undef, undef, undef, undef, undef, undef, undef, undef, undef, undef, undef, undef, undef, undef, undef, undef, undef, undef, undef, undef, undef, undef, undef, undef, undef, undef, undef, undef, undef, undef, undef, undef, undef, undef, undef, undef, undef, undef, undef, undef, undef, undef, undef, undef, undef, undef, undef, undef, undef, undef, undef, undef, undef, undef, undef, undef, undef, undef, undef, undef, undef], []⟩ : Act) v
            simp only [List.drop_succ_cons, List.drop_zero]
            clear w0 w1 w2 w3 w4 w5 w6 w7 w8 w9 w10 w11 w12 w13 w14 w15 w16 w17 w18
            obtain ⟨u0, u1, u2, u3, u4, u5, u6, u7⟩ := ow6.1.c8
            have z0 := ow6.2 0
            have z1 := ow6.2 1
            have z2 := ow6.2 2
            have z3 := ow6.2 3
            have z4 := ow6.2 4
            have z5 := ow6.2 5
            have z6 := ow6.2 6
            have z7 := ow6.2 7
            have gs := gn.size
            have hov := ov.1.1
            go_upto_region 9 with fail
            refine wp_abs (fun V => Gr wr V ∧ Own V wr.heap.size [.int .u8 y0, .int .u8 y1, .int .u8 y2, .int .u8 y3, .int .u8 y4, .int .u8 y5] ∧ Own V b6 [.int .i64 (1 + (k : Int)), .int .i64 (50 + y1), .int .i64 (50 + y2), .int .i64 ((50 + y2) + (y0 / 8)), .int .i64 (y3 % 100), .int .i64 ((y3 % 100) + (y3 / 16)), .int .i64 (1000 * y4), .int .i64 (10 * y5)]) ⟨(((((((((gn.tr gv).setCell (by simp; omega) _).setCell (by simp; omega) _).setCell (by simp; omega) _).setCell (by simp; omega) _).setCell (by simp; omega) _).setCell (by simp; omega) _).setCell (by simp; omega) _).setCell (by simp; omega) _), ((((((((ov.keep gv).other (by omega)).other (by omega)).other (by omega)).other (by omega)).other (by omega)).other (by omega)).other (by omega)).other (by omega), (((((((ow6.set (i := 0) (by simp)).set (i := 1) (by simp)).set (i := 2) (by simp)).set (i := 3) (by simp)).set (i := 4) (by simp)).set (i := 5) (by simp)).set (i := 6) (by simp)).set (i := 7) (by simp)⟩ ?_
            have hb6w : wr.heap.size < b6 := by omega
            clear u0 u1 u2 u3 u4 u5 u6 u7 z0 z1 z2 z3 z4 z5 z6 z7 ow6 ov gn gv gs hov hb6
            rintro V ⟨gn, ov, ow6⟩
            go_upto_if 83 with fail
            go_cut [] from 84 to 89 (fun wx => Gr wr wx ∧ Own wx b6 (encP (paperW k ⟨y0, y1, y2, y3, y4, y5⟩)))
            case first =>
              by_cases h1 : 1 < k
              · have E : encP (paperW k ⟨y0, y1, y2, y3, y4, y5⟩) = [.int .i64 (1 + y0 % 2), .int .i64 (50 + y1), .int .i64 (50 + y2), .int .i64 ((50 + y2) + (y0 / 8)), .int .i64 (y3 % 100), .int .i64 ((y3 % 100) + (y3 / 16)), .int .i64 (1000 * y4), .int .i64 (10 * y5)] := by simp [encP, paperW, h1]
                have E' := Lib.hid E
                have d1 : decide ((1 : Int) < (k : Int)) = true := by simp; omega
                have q0 := ov.1.2 0 _ rfl
                have u0 := ow6.1.2 0 _ rfl
                have z0 := ow6.2 0
                have v0 : y0.tmod 2 = y0 % 2 := Int.tmod_eq_emod_of_nonneg (by omega)
                have hm2 : y0 % 2 = 0 ∨ y0 % 2 = 1 := by omega
                have v1 : IntKind.u8.wrap (1 + y0 % 2) = 1 + y0 % 2 := by rcases hm2 with e | e <;> rw [e] <;> rfl
                have v2 : IntKind.i64.wrap (1 + y0 % 2) = 1 + y0 % 2 := IntWalk.i64_in _ (by omega)
                clear E hm2
                go_wp2_with fail
                go_meet
                refine ⟨gn.setCell (by simp; omega) _, ?_⟩
                rw [E'.out]
                exact ow6.set (i := 0) (by simp)
              · have E : encP (paperW k ⟨y0, y1, y2, y3, y4, y5⟩) = [.int .i64 (1 + (k : Int)), .int .i64 (50 + y1), .int .i64 (50 + y2), .int .i64 ((50 + y2) + (y0 / 8)), .int .i64 (y3 % 100), .int .i64 ((y3 % 100) + (y3 / 16)), .int .i64 (1000 * y4), .int .i64 (10 * y5)] := by simp [encP, paperW, h1]
                have E' := Lib.hid E
                have d1 : decide ((1 : Int) < (k : Int)) = false := by simp; omega
                clear E
                go_wp2_with fail
                go_meet
                refine ⟨gn, ?_⟩
                rw [E'.out]
                exact ow6
            case rest =>
              clear gn ov ow6
              obtain ⟨gX, oP⟩ := hcut
              generalize paperW k ⟨y0, y1, y2, y3, y4, y5⟩ = pp at *
              clear p0 p1 p2 p3 p4 p5 p6 p7 p8 p9 p10 p11
              have s0 := ((os.keep gX).1.c2).1
              obtain ⟨u0, u1, u2, u3, u4, u5, u6, u7⟩ := (show Box wc b6 [.int .i64 pp.kind, .int .i64 pp.weight, .int .i64 pp.tlo, .int .i64 pp.thi, .int .i64 pp.mlo, .int .i64 pp.mhi, .int .i64 pp.price, .int .i64 pp.strong] from oP.1).c8
              have k1 : k + 1 ≤ maxLen := by unfold maxLen; omega
              have k2 : (k + 1) * 64 ≤ 140737488355328 := by omega
              have gA := gX.tr (Gr.al wc (.cells #[.int .i64 pp.kind, .int .i64 pp.weight, .int .i64 pp.tlo, .int .i64 pp.thi, .int .i64 pp.mlo, .int .i64 pp.mhi, .int .i64 pp.price, .int .i64 pp.strong] 174))
              have hoA := owns_keep hown gA
              have gA0 := gA.size
              have hne4 : ∀ r, pv.ownBlock = some r → w.heap.size + 1 + 1 < r ∧ r < wr.heap.size := (fun r hr => by have := hown.lt r hr; omega)
              have HNE := Lib.hid hne4
              clear hne4
              go_wp2_with (at_builtin; refine wpList_append_own _ rfl _ _ 121 rfl (w.heap.size + 1 + 1 + 1) 174 ip _ 8 64 Try.underlying121 hip hpz0 hpz1 hpz2 rfl (by decide) _ _ _ rfl hoA ⟨wc.heap.size, 0, none⟩ 1 1 ([pp.kind, pp.weight, pp.tlo, pp.thi, pp.mlo, pp.mhi, pp.price, pp.strong].map (fun n => Value.int .i64 n)) rfl rfl (cell_news _ _ _) (ints_one _) k1 k2 (by omega) ?_; intro v' w6 hown4 hgr4 _; obtain ⟨a4, c4, rfl⟩ := owns_val hown4; have os4 := (os.keep gA).grownRow hgr4 (fun r hr => by have := HNE.out r hr; omega); have gY := (gg.tr gA).grown' hoA (by omega) hgr4; have hx4 := (hx.keep gA).grown hgr4 (fun r hr => by have := HNE.out r hr; omega); have or4 := (or.keep gA).grownRow hgr4 (fun r hr => by have := HNE.out r hr; omega); obtain ⟨t0, t1⟩ := os4.1.c2; have y0 := os4.2 0)
              go_roundw
              case rel =>
                refine Lib.hid ⟨k + 1, _, by omega, by go_num, gY.setCell (show w.heap.size ≤ w.heap.size + 1 + 1 by omega) _, ?_, or4.other (by omega), os4.set (i := 0) (by simp), ?_⟩
                · exact hx4.other (by omega)
                · rw [List.take_add_one, HPK.out, Option.toList_some, flat_snoc]
                  exact owns_other hown4 (by omega)
              case measure => simp [intOf]; omega
    · obtain rfl : k = npW P.length := by omega
      have hle : npW P.length = (storeWP P).length := (storeWP_len P).symm
      rw [List.take_of_length_le (by omega)] at hown
      have HLE := Lib.hid hle
      have hB1 := hown.lt
      have HP1 := Lib.hid hB1
      clear hB1 hle
      have hsz : w.heap.size + 1 + 1 < wr.heap.size := os.1.1
      go_upto_region 3 with fail
      go_cut [23] from 11 to 22 (fun s23 wx => s23 = .bool false ∧ wr = wx)
      case first =>
        have q0 := hx.2 0 _ rfl
        have d1 : decide ((npW P.length : Int) < 2) = false := by simp; omega
        by_cases hl : npW P.length < P.length
        · have d2 : decide (npW P.length < P.length) = true := by simpa using hl
          have h5 : npW P.length = 5 := by unfold npW at hl ⊢; split at hl <;> (try split at hl) <;> (try split) <;> omega
          have d3 : decide ((npW P.length : Int) < 5) = false := by simp; omega
          clear h5
          go_wp2_with fail
          go_meet
          exact ⟨rfl, rfl⟩
        · have d2 : decide (npW P.length < P.length) = false := by simpa using hl
          go_wp2_with fail
          go_meet
          exact ⟨rfl, rfl⟩
      case rest =>
        obtain ⟨rfl, rfl⟩ := hcut
        obtain ⟨H1, hH1⟩ : ∃ H1, H1 = wr.heap.size := ⟨_, rfl⟩
        have hsw : w.heap.size + 1 + 1 < H1 := by omega
        have hge : H1 ≤ wr.heap.size := by omega
        have HP2 : Hid (∀ r, pv.ownBlock = some r → r < H1) := Lib.hid (fun r hr => by have := HP1.out r hr; omega)
        clear hH1 HP1
        generalize npW P.length = np at *
        go_wp2
        refine (show (∀ t : Nat → Value, Code.wp Try.prog _ _ ⟨#[t 0, .pointer (some ⟨w.heap.size, 0, none⟩), .pointer (some ⟨(w.heap.size + 1), 0, none⟩), .pointer (some ⟨(w.heap.size + 1 + 1), 0, none⟩), t 4, t 5, t 6, .int .i64 0, undef, undef, t 10, t 11, t 12, t 13, t 14, t 15, t 16, t 17, t 18, t 19, t 20, t 21, t 22, t 23, t 24, t 25, t 26, t 27, t 28, t 29, t 30, t 31, t 32, t 33, t 34, t 35, t 36, t 37, t 38, t 39, t 40, t 41, t 42, t 43, t 44, t 45, t 46, t 47, t 48, t 49, t 50, t 51, t 52, t 53, t 54, t 55, t 56, t 57, t 58, t 59, t 60, t 61, t 62, t 63, t 64, t 65, t 66, t 67, t 68, t 69, t 70, t 71, t 72, t 73, t 74, t 75, t 76, t 77, t 78, t 79, t 80, t 81, t 82, t 83, t 84, t 85, t 86, t 87, t 88, t 89, t 90, t 91, t 92, t 93, t 94, t 95, undef, undef, undef, undef, undef, undef, undef, undef, undef, undef, undef, undef, undef, undef, undef, undef, undef, undef, undef, undef, undef, undef, undef, undef, undef, undef, undef, undef, undef, undef, undef, undef, undef, undef, undef, undef, undef, undef, undef, undef, undef, undef, undef, undef, undef, undef, undef, undef, undef, undef, undef, undef, undef, undef, undef, undef, undef, undef, undef, undef, undef, undef, undef], []⟩ _) → _ from fun h => h ((fun l : List Value => fun i => l.getD i undef) [_, undef, undef, undef, _, _, _, undef, undef, undef, _, _, _, _, _, _, _, _, _, _, _, _, _, _, _, _, _, _, _, _, _, _, _, _, _, _, _, _, _, _, _, _, _, _, _, _, _, _, _, _, _, _, _, _, _, _, _, _, _, _, _, _, _, _, _, _, _, _, _, _, _, _, _, _, _, _, _, _, _, _, _, _, _, _, _, _, _, _, _, _, _, _, _, _, _, _])) ?_
        intro t
        dsimp only
        go_loopw [7] (fun i wq => Hid (∃ (k : Nat) (pv2 : Value), k ≤ nfW F.length ∧ i = .int .i64 k ∧ Gr w wq ∧ H1 ≤ wq.heap.size ∧ Box wq w.heap.size [.slice pa P.length pc, .slice fa F.length fc, .slice ya yn yc] ∧ Own wq (w.heap.size + 1) [.slice none 0 0, .slice none 0 0] ∧ Own wq (w.heap.size + 1 + 1) [pv, pv2] ∧
                wq.ownsRow (w.heap.size + 1 + 1 + 1) 174 8 pv np ((storeWP P).flatMap encP) ∧ wq.ownsRow H1 176 4 pv2 k (((storeWF F).take k).flatMap encF))) (fun i wq => 3 - (intOf i).toNat)
        case atStart => exact Lib.hid ⟨0, .slice none 0 0, by omega, rfl, gg, hge, hx, or, os, hown, World.ownsRow_nil _ _ _ _⟩
        case round =>
          clear gg hx or os hown
          obtain ⟨k, pv2, hk, rfl, gg, hHq, hx, or, os, hPo, hown⟩ := hrel.out
          clear hrel
          by_cases hlt : k < nfW F.length
          · have k5 : k < 3 := by omega
            have hsz : w.heap.size + 1 + 1 < wr.heap.size := os.1.1
            go_upto_region 13 with fail
            go_cut [108] from 96 to 107 (fun s23 wx => s23 = .bool true ∧ wr = wx)
            case first =>
              have q0 := hx.2 1 _ rfl
              by_cases h2 : k = 0
              · subst h2
                go_wp2_with fail
                go_meet
                exact ⟨rfl, rfl⟩
              · have d1 : ((k : Int) == 0) = false := by rw [beq_eq_false_iff_ne]; omega
                have hl : k < F.length := by unfold nfW at hlt; split at hlt <;> (try split at hlt) <;> omega
                have d2 : decide (k < F.length) = true := by simpa using hl
                have d3 : decide ((k : Int) < 3) = true := by simp; omega
                go_wp2_with fail
                go_meet
                exact ⟨rfl, rfl⟩
            case rest =>
              obtain ⟨rfl, rfl⟩ := hcut
              have q0 := hx.2 1 _ rfl
              have q0' := (hx.keep (Gr.al wr (.cells #[.int .u8 80, .int .u8 128, .int .u8 36] 94))).2 1 _ rfl
              go_upto_if 116 with fail
              go_cut [] from 117 to 121 (fun wx => Gr wr wx ∧ Own wx wr.heap.size (encV3 (wareF F k)))
              case first =>
                by_cases hl : k < F.length
                · obtain ⟨v, hv⟩ := get_of_lt hl
                  have E : wareF F k = v := by simp [wareF, hv]
                  have E' := Lib.hid E
                  clear E
                  obtain ⟨b0, o0, ha, hb0, hc⟩ := (rf.grow (gg.tr (Gr.al wr (.cells #[.int .u8 80, .int .u8 128, .int .u8 36] 94)))).2 k v hv
                  subst ha
                  clear hv
                  obtain ⟨v0, v1, v2⟩ := v
                  have c0 : (wr.alloc (.cells #[.int .u8 80, .int .u8 128, .int .u8 36] 94)).cell? ⟨b0, o0 + k * 3, none⟩ = some (.int .u8 v0) := hc 0 _ rfl
                  have c1 : (wr.alloc (.cells #[.int .u8 80, .int .u8 128, .int .u8 36] 94)).cell? ⟨b0, o0 + k * 3 + 1, none⟩ = some (.int .u8 v1) := hc 1 _ rfl
                  have c2 : (wr.alloc (.cells #[.int .u8 80, .int .u8 128, .int .u8 36] 94)).cell? ⟨b0, o0 + k * 3 + 2, none⟩ = some (.int .u8 v2) := hc 2 _ rfl
                  clear hc
                  have d2 : decide (k < F.length) = true := by simpa using hl
                  go_wp2_with fail
                  go_meet
                  refine ⟨Gr.al _ _, ?_⟩
                  rw [E'.out]
                  exact Own.new _ [.int .u8 v0, .int .u8 v1, .int .u8 v2] _ _ rfl
                · have E : wareF F k = ⟨80, 128, 36⟩ := by simp [wareF, List.getElem?_eq_none (show F.length ≤ k by omega)]
                  have E' := Lib.hid E
                  clear E
                  have d2 : decide (k < F.length) = false := by simpa using hl
                  go_wp2_with fail
                  go_meet
                  refine ⟨Gr.al _ _, ?_⟩
                  rw [E'.out]
                  exact Own.new _ [.int .u8 80, .int .u8 128, .int .u8 36] _ _ rfl
              case rest =>
                obtain ⟨gn, ov⟩ := hcut
                clear q0 q0'
                have hpk := storeWF_at hlt
                obtain ⟨⟨p0, p1⟩, ⟨p2, p3⟩, ⟨p4, p5⟩⟩ := wareF_B HF.out k
                generalize wareF F k = vv at *
                obtain ⟨y0, y1, y2⟩ := vv
                simp only at p0 p1 p2 p3 p4 p5
                have HPK := Lib.hid hpk
                clear hpk
                have m0 : 0 ≤ (1000 + 35 * y0) * y1 := Int.mul_nonneg (by omega) p2
                have m1 : (1000 + 35 * y0) * y1 ≤ 9925 * 255 := Int.mul_le_mul (by omega) p3 p2 (by omega)
                have q0 := ov.1.2 0 _ rfl
                have hwa : IntKind.i64.wrap y0 = y0 := IntWalk.i64_in _ (by omega)
                have hwb : IntKind.i64.wrap (35 * y0) = 35 * y0 := IntWalk.i64_in _ (by omega)
                have hwc : IntKind.i64.wrap (1000 + 35 * y0) = 1000 + 35 * y0 := IntWalk.i64_in _ (by omega)
                go_upto_region 19 with fail
                clear q0 hwa hwb hwc
                refine (show (∀ r : Nat → Value, Code.wp Try.prog _ _ ⟨#[t 0, .pointer (some ⟨w.heap.size, 0, none⟩), .pointer (some ⟨(w.heap.size + 1), 0, none⟩), .pointer (some ⟨(w.heap.size + 1 + 1), 0, none⟩), t 4, t 5, t 6, .int .i64 (k : Int), .pointer (some ⟨wr.heap.size, 0, none⟩), .int .i64 (1000 + 35 * y0), t 10, t 11, t 12, t 13, t 14, t 15, t 16, t 17, t 18, t 19, t 20, t 21, t 22, t 23, t 24, t 25, t 26, t 27, t 28, t 29, t 30, t 31, t 32, t 33, t 34, t 35, t 36, t 37, t 38, t 39, t 40, t 41, t 42, t 43, t 44, t 45, t 46, t 47, t 48, t 49, t 50, t 51, t 52, t 53, t 54, t 55, t 56, t 57, t 58, t 59, t 60, t 61, t 62, t 63, t 64, t 65, t 66, t 67, t 68, t 69, t 70, t 71, t 72, t 73, t 74, t 75, t 76, t 77, t 78, t 79, t 80, t 81, t 82, t 83, t 84, t 85, t 86, t 87, t 88, t 89, t 90, t 91, t 92, t 93, t 94, t 95, r 96, r 97, r 98, r 99, r 100, r 101, r 102, r 103, r 104, r 105, r 106, r 107, r 108, r 109, r 110, r 111, r 112, r 113, r 114, r 115, r 116, r 117, r 118, r 119, r 120, r 121, r 122, r 123, r 124, r 125, r 126, r 127, r 128, r 129, r 130, r 131, r 132, r 133, r 134, r 135, r 136, r 137, r 138, r 139, r 140, r 141, r 142, r 143, r 144, r 145, r 146, r 147, r 148, r 149, r 150, r 151, r 152, r 153, r 154, r 155, r 156, r 157, undef], []⟩ _) → _ from fun h => h ((fun l : List Value => fun i => l.getD i undef) [undef, undef, undef, undef, undef, undef, undef, undef, undef, undef, undef, undef, undef, undef, undef, undef, undef, undef, undef, undef, undef, undef, undef, undef, undef, undef, undef, undef, undef, undef, undef, undef, undef, undef, undef, undef, undef, undef, undef, undef, undef, undef, undef, undef, undef, undef, undef, undef, undef, undef, undef, undef, undef, undef, undef, undef, undef, undef, undef, undef, undef, undef, undef, undef, undef, undef, undef, undef, undef, undef, undef, undef, undef, undef, undef, undef, undef, undef, undef, undef, undef, undef, undef, undef, undef, undef, undef, undef, undef, undef, undef, undef, undef, undef, undef, undef, _, _, _, _, _, _, _, _, _, _, _, _, _, _, _, _, _, _, _, _, _, _, _, _, _, _, _, _, _, _, _, _, _, _, _, _, _, _, _, _, _, _, _, _, _, _, _, _, _, _, _, _, _, _, _, _, _, _, _, _, _, _])) ?_
                intro r
                dsimp only
                have osX := os.keep gn
                have w0 : IntKind.i64.wrap (y1) = y1 := IntWalk.i64_in _ (by omega)
                have w1 : IntKind.i64.wrap ((1000 + 35 * y0) * y1) = (1000 + 35 * y0) * y1 := IntWalk.i64_in _ (by omega)
                have w2 : ((1000 + 35 * y0) * y1).tdiv 255 = ((1000 + 35 * y0) * y1) / 255 := Int.tdiv_eq_ediv_of_nonneg (by omega)
                have w3 : IntKind.i64.wrap (((1000 + 35 * y0) * y1) / 255) = ((1000 + 35 * y0) * y1) / 255 := IntWalk.i64_in _ (by omega)
                have w4 : IntKind.i64.wrap ((1000 + 35 * y0) + (((1000 + 35 * y0) * y1) / 255)) = (1000 + 35 * y0) + (((1000 + 35 * y0) * y1) / 255) := IntWalk.i64_in _ (by omega)
                have w5 : IntKind.i64.wrap (y2) = y2 := IntWalk.i64_in _ (by omega)
                have w6 : IntKind.i64.wrap (10 * y2) = 10 * y2 := IntWalk.i64_in _ (by omega)
                have w7 : IntKind.i64.wrap (500 + (10 * y2)) = 500 + (10 * y2) := IntWalk.i64_in _ (by omega)
                have w8 : y1.tmod 90 = y1 % 90 := Int.tmod_eq_emod_of_nonneg (by omega)
                have w9 : IntKind.i64.wrap ((500 + (10 * y2)) + (y1 % 90)) = (500 + (10 * y2)) + (y1 % 90) := IntWalk.i64_in _ (by omega)
                refine wp_region_facts 29 [(1, 0), (6, 5), (7, 6), (8, 4), (8, 7), (9, 8), (10, 3), (10, 9), (12, 11), (13, 12), (14, 13), (15, 14), (17, 16), (18, 17), (19, 18), (20, 19), (22, 21), (23, 22), (24, 23), (25, 20), (25, 24), (26, 15), (26, 25), (27, 2), (27, 10), (27, 26), (28, 27)] (fun x => ⟨#[t 0, .pointer (some ⟨w.heap.size, 0, none⟩), .pointer (some ⟨(w.heap.size + 1), 0, none⟩), .pointer (some ⟨(w.heap.size + 1 + 1), 0, none⟩), t 4, t 5, t 6, .int .i64 (k : Int), .pointer (some ⟨wr.heap.size, 0, none⟩), .int .i64 (1000 + 35 * y0), t 10, t 11, t 12, t 13, t 14, t 15, t 16, t 17, t 18, t 19, t 20, t 21, t 22, t 23, t 24, t 25, t 26, t 27, t 28, t 29, t 30, t 31, t 32, t 33, t 34, t 35, t 36, t 37, t 38, t 39, t 40, t 41, t 42, t 43, t 44, t 45, t 46, t 47, t 48, t 49, t 50, t 51, t 52, t 53, t 54, t 55, t 56, t 57, t 58, t 59, t 60, t 61, t 62, t 63, t 64, t 65, t 66, t 67, t 68, t 69, t 70, t 71, t 72, t 73, t 74, t 75, t 76, t 77, t 78, t 79, t 80, t 81, t 82, t 83, t 84, t 85, t 86, t 87, t 88, t 89, t 90, t 91, t 92, t 93, t 94, t 95, r 96, r 97, r 98, r 99, r 100, r 101, r 102, r 103, r 104, r 105, r 106, r 107, r 108, r 109, r 110, r 111, r 112, r 113, r 114, r 115, r 116, r 117, r 118, r 119, r 120, r 121, r 122, r 123, r 124, r 125, r 126, x 0, x 1, x 2, x 3, x 4, x 5, x 6, x 7, x 8, x 9, x 10, x 11, x 12, x 13, x 14, x 15, x 16, x 17, x 18, x 19, x 20, x 21, x 22, x 23, x 24, x 25, x 26, x 27, x 28, r 156, r 157, undef], []⟩) (fun i => [r 127, r 128, r 129, r 130, r 131, r 132, r 133, r 134, r 135, r 136, r 137, r 138, r 139, r 140, r 141, r 142, r 143, r 144, r 145, r 146, r 147, r 148, r 149, r 150, r 151, r 152, r 153, r 154, r 155].getD i undef) [fun _ x => x = .pointer (some ⟨(w.heap.size + 1 + 1), 1, none⟩), fun _ x => x = pv2, fun _ x => x = .int .i64 (1000 + 35 * y0), fun _ x => x = .int .i64 (1000 + 35 * y0), fun _ x => x = .int .i64 (1000 + 35 * y0), fun _ x => x = .pointer (some ⟨wr.heap.size, 1, none⟩), fun _ x => x = .int .u8 y1, fun _ x => x = .int .i64 y1, fun _ x => x = .int .i64 ((1000 + 35 * y0) * y1), fun _ x => x = .int .i64 (((1000 + 35 * y0) * y1) / 255), fun _ x => x = .int .i64 ((1000 + 35 * y0) + (((1000 + 35 * y0) * y1) / 255)), fun _ x => x = .pointer (some ⟨wr.heap.size, 2, none⟩), fun _ x => x = .int .u8 y2, fun _ x => x = .int .i64 y2, fun _ x => x = .int .i64 (10 * y2), fun _ x => x = .int .i64 (500 + (10 * y2)), fun _ x => x = .pointer (some ⟨wr.heap.size, 2, none⟩), fun _ x => x = .int .u8 y2, fun _ x => x = .int .i64 y2, fun _ x => x = .int .i64 (10 * y2), fun _ x => x = .int .i64 (500 + (10 * y2)), fun _ x => x = .pointer (some ⟨wr.heap.size, 1, none⟩), fun _ x => x = .int .u8 y1, fun _ x => x = .int .i64 y1, fun _ x => x = .int .i64 (y1 % 90), fun _ x => x = .int .i64 ((500 + (10 * y2)) + (y1 % 90)), fun _ x => x = .agg #[.int .i64 (500 + (10 * y2)), .int .i64 ((500 + (10 * y2)) + (y1 % 90))], fun _ x => x = .agg #[.int .i64 (1000 + 35 * y0), .int .i64 ((1000 + 35 * y0) + (((1000 + 35 * y0) * y1) / 255)), .int .i64 (500 + (10 * y2)), .int .i64 ((500 + (10 * y2)) + (y1 % 90))], fun v x => ∃ b, x = .slice (some ⟨b, 0, none⟩) 1 1 ∧ wc.heap.size ≤ b ∧ Own v b [.int .i64 (1000 + 35 * y0), .int .i64 ((1000 + 35 * y0) + (((1000 + 35 * y0) * y1) / 255)), .int .i64 (500 + (10 * y2)), .int .i64 ((500 + (10 * y2)) + (y1 % 90))]] (by rfl) (by kernel_rfl) (by kernel_rfl) (by kernel_rfl) (stays_cons (Stays.eq _) (stays_cons (Stays.eq _) (stays_cons (Stays.eq _) (stays_cons (Stays.eq _) (stays_cons (Stays.eq _) (stays_cons (Stays.eq _) (stays_cons (Stays.eq _) (stays_cons (Stays.eq _) (stays_cons (Stays.eq _) (stays_cons (Stays.eq _) (stays_cons (Stays.eq _) (stays_cons (Stays.eq _) (stays_cons (Stays.eq _) (stays_cons (Stays.eq _) (stays_cons (Stays.eq _) (stays_cons (Stays.eq _) (stays_cons (Stays.eq _) (stays_cons (Stays.eq _) (stays_cons (Stays.eq _) (stays_cons (Stays.eq _) (stays_cons (Stays.eq _) (stays_cons (Stays.eq _) (stays_cons (Stays.eq _) (stays_cons (Stays.eq _) (stays_cons (Stays.eq _) (stays_cons (Stays.eq _) (stays_cons (Stays.eq _) (stays_cons (Stays.eq _) (stays_cons ((show Stays (fun v x => ∃ b, x = .slice (some ⟨b, 0, none⟩) 1 1 ∧ wc.heap.size ≤ b ∧ Own v b [.int .i64 (1000 + 35 * y0), .int .i64 ((1000 + 35 * y0) + (((1000 + 35 * y0) * y1) / 255)), .int .i64 (500 + (10 * y2)), .int .i64 ((500 + (10 * y2)) + (y1 % 90))]) from fun v v' x g ⟨b, e, h, o⟩ => ⟨b, e, h, o.keep g⟩)) stays_nil))))))))))))))))))))))))))))) ?step19 ?fin19
                case step19 =>
                  rintro i hi x v gv hd K hK
                  have hi8 : i = 0 ∨ i = 1 ∨ i = 2 ∨ i = 3 ∨ i = 4 ∨ i = 5 ∨ i = 6 ∨ i = 7 ∨ i = 8 ∨ i = 9 ∨ i = 10 ∨ i = 11 ∨ i = 12 ∨ i = 13 ∨ i = 14 ∨ i = 15 ∨ i = 16 ∨ i = 17 ∨ i = 18 ∨ i = 19 ∨ i = 20 ∨ i = 21 ∨ i = 22 ∨ i = 23 ∨ i = 24 ∨ i = 25 ∨ i = 26 ∨ i = 27 ∨ i = 28 := by omega
                  rcases hi8 with rfl | rfl | rfl | rfl | rfl | rfl | rfl | rfl | rfl | rfl | rfl | rfl | rfl | rfl | rfl | rfl | rfl | rfl | rfl | rfl | rfl | rfl | rfl | rfl | rfl | rfl | rfl | rfl | rfl
                  · show wpOp Try.prog _ _ 0 K (⟨#[t 0, .pointer (some ⟨w.heap.size, 0, none⟩), .pointer (some ⟨(w.heap.size + 1), 0, none⟩), .pointer (some ⟨(w.heap.size + 1 + 1), 0, none⟩), t 4, t 5, t 6, .int .i64 (k : Int), .pointer (some ⟨wr.heap.size, 0, none⟩), .int .i64 (1000 + 35 * y0), t 10, t 11, t 12, t 13, t 14, t 15, t 16, t 17, t 18, t 19, t 20, t 21, t 22, t 23, t 24, t 25, t 26, t 27, t 28, t 29, t 30, t 31, t 32, t 33, t 34, t 35, t 36, t 37, t 38, t 39, t 40, t 41, t 42, t 43, t 44, t 45, t 46, t 47, t 48, t 49, t 50, t 51, t 52, t 53, t 54, t 55, t 56, t 57, t 58, t 59, t 60, t 61, t 62, t 63, t 64, t 65, t 66, t 67, t 68, t 69, t 70, t 71, t 72, t 73, t 74, t 75, t 76, t 77, t 78, t 79, t 80, t 81, t 82, t 83, t 84, t 85, t 86, t 87, t 88, t 89, t 90, t 91, t 92, t 93, t 94, t 95, r 96, r 97, r 98, r 99, r 100, r 101, r 102, r 103, r 104, r 105, r 106, r 107, r 108, r 109, r 110, r 111, r 112, r 113, r 114, r 115, r 116, r 117, r 118, r 119, r 120, r 121, r 122, r 123, r 124, r 125, r 126, x 0, x 1, x 2, x 3, x 4, x 5, x 6, x 7, x 8, x 9, x 10, x 11, x 12, x 13, x 14, x 15, x 16, x 17, x 18, x 19, x 20, x 21, x 22, x 23, x 24, x 25, x 26, x 27, x 28, r 156, r 157, undef], []⟩ : Act) v
                    refine wpOp_step rfl (fun K' hK' => ?_)
                    go_simp
                    exact hK' _ _ (hK _ _ (Below.refl _ _) (at_of rfl (rfl)))
                  · obtain ⟨x, rfl⟩ := upd_of (show x 0 = .pointer (some ⟨(w.heap.size + 1 + 1), 1, none⟩) from hd 0 _ (by simp) rfl)
                    show wpOp Try.prog _ _ 1 K (⟨#[t 0, .pointer (some ⟨w.heap.size, 0, none⟩), .pointer (some ⟨(w.heap.size + 1), 0, none⟩), .pointer (some ⟨(w.heap.size + 1 + 1), 0, none⟩), t 4, t 5, t 6, .int .i64 (k : Int), .pointer (some ⟨wr.heap.size, 0, none⟩), .int .i64 (1000 + 35 * y0), t 10, t 11, t 12, t 13, t 14, t 15, t 16, t 17, t 18, t 19, t 20, t 21, t 22, t 23, t 24, t 25, t 26, t 27, t 28, t 29, t 30, t 31, t 32, t 33, t 34, t 35, t 36, t 37, t 38, t 39, t 40, t 41, t 42, t 43, t 44, t 45, t 46, t 47, t 48, t 49, t 50, t 51, t 52, t 53, t 54, t 55, t 56, t 57, t 58, t 59, t 60, t 61, t 62, t 63, t 64, t 65, t 66, t 67, t 68, t 69, t 70, t 71, t 72, t 73, t 74, t 75, t 76, t 77, t 78, t 79, t 80, t 81, t 82, t 83, t 84, t 85, t 86, t 87, t 88, t 89, t 90, t 91, t 92, t 93, t 94, t 95, r 96, r 97, r 98, r 99, r 100, r 101, r 102, r 103, r 104, r 105, r 106, r 107, r 108, r 109, r 110, r 111, r 112, r 113, r 114, r 115, r 116, r 117, r 118, r 119, r 120, r 121, r 122, r 123, r 124, r 125, r 126, .pointer (some ⟨(w.heap.size + 1 + 1), 1, none⟩), x 1, x 2, x 3, x 4, x 5, x 6, x 7, x 8, x 9, x 10, x 11, x 12, x 13, x 14, x 15, x 16, x 17, x 18, x 19, x 20, x 21, x 22, x 23, x 24, x 25, x 26, x 27, x 28, r 156, r 157, undef], []⟩ : Act) v
                    refine wpOp_step rfl (fun K' hK' => ?_)
                    have q := (osX.1.keep gv).2 1 _ rfl
                    go_simp
                    exact hK' _ _ (hK _ _ (Below.refl _ _) (at_of rfl (rfl)))
                  · show wpOp Try.prog _ _ 2 K (⟨#[t 0, .pointer (some ⟨w.heap.size, 0, none⟩), .pointer (some ⟨(w.heap.size + 1), 0, none⟩), .pointer (some ⟨(w.heap.size + 1 + 1), 0, none⟩), t 4, t 5, t 6, .int .i64 (k : Int), .pointer (some ⟨wr.heap.size, 0, none⟩), .int .i64 (1000 + 35 * y0), t 10, t 11, t 12, t 13, t 14, t 15, t 16, t 17, t 18, t 19, t 20, t 21, t 22, t 23, t 24, t 25, t 26, t 27, t 28, t 29, t 30, t 31, t 32, t 33, t 34, t 35, t 36, t 37, t 38, t 39, t 40, t 41, t 42, t 43, t 44, t 45, t 46, t 47, t 48, t 49, t 50, t 51, t 52, t 53, t 54, t 55, t 56, t 57, t 58, t 59, t 60, t 61, t 62, t 63, t 64, t 65, t 66, t 67, t 68, t 69, t 70, t 71, t 72, t 73, t 74, t 75, t 76, t 77, t 78, t 79, t 80, t 81, t 82, t 83, t 84, t 85, t 86, t 87, t 88, t 89, t 90, t 91, t 92, t 93, t 94, t 95, r 96, r 97, r 98, r 99, r 100, r 101, r 102, r 103, r 104, r 105, r 106, r 107, r 108, r 109, r 110, r 111, r 112, r 113, r 114, r 115, r 116, r 117, r 118, r 119, r 120, r 121, r 122, r 123, r 124, r 125, r 126, x 0, x 1, x 2, x 3, x 4, x 5, x 6, x 7, x 8, x 9, x 10, x 11, x 12, x 13, x 14, x 15, x 16, x 17, x 18, x 19, x 20, x 21, x 22, x 23, x 24, x 25, x 26, x 27, x 28, r 156, r 157, undef], []⟩ : Act) v
                    refine wpOp_step rfl (fun K' hK' => ?_)
                    go_simp
                    exact hK' _ _ (hK _ _ (Below.refl _ _) (at_of rfl (rfl)))
                  · show wpOp Try.prog _ _ 3 K (⟨#[t 0, .pointer (some ⟨w.heap.size, 0, none⟩), .pointer (some ⟨(w.heap.size + 1), 0, none⟩), .pointer (some ⟨(w.heap.size + 1 + 1), 0, none⟩), t 4, t 5, t 6, .int .i64 (k : Int), .pointer (some ⟨wr.heap.size, 0, none⟩), .int .i64 (1000 + 35 * y0), t 10, t 11, t 12, t 13, t 14, t 15, t 16, t 17, t 18, t 19, t 20, t 21, t 22, t 23, t 24, t 25, t 26, t 27, t 28, t 29, t 30, t 31, t 32, t 33, t 34, t 35, t 36, t 37, t 38, t 39, t 40, t 41, t 42, t 43, t 44, t 45, t 46, t 47, t 48, t 49, t 50, t 51, t 52, t 53, t 54, t 55, t 56, t 57, t 58, t 59, t 60, t 61, t 62, t 63, t 64, t 65, t 66, t 67, t 68, t 69, t 70, t 71, t 72, t 73, t 74, t 75, t 76, t 77, t 78, t 79, t 80, t 81, t 82, t 83, t 84, t 85, t 86, t 87, t 88, t 89, t 90, t 91, t 92, t 93, t 94, t 95, r 96, r 97, r 98, r 99, r 100, r 101, r 102, r 103, r 104, r 105, r 106, r 107, r 108, r 109, r 110, r 111, r 112, r 113, r 114, r 115, r 116, r 117, r 118, r 119, r 120, r 121, r 122, r 123, r 124, r 125, r 126, x 0, x 1, x 2, x 3, x 4, x 5, x 6, x 7, x 8, x 9, x 10, x 11, x 12, x 13, x 14, x 15, x 16, x 17, x 18, x 19, x 20, x 21, x 22, x 23, x 24, x 25, x 26, x 27, x 28, r 156, r 157, undef], []⟩ : Act) v
                    refine wpOp_step rfl (fun K' hK' => ?_)
                    go_simp
                    exact hK' _ _ (hK _ _ (Below.refl _ _) (at_of rfl (rfl)))
                  · show wpOp Try.prog _ _ 4 K (⟨#[t 0, .pointer (some ⟨w.heap.size, 0, none⟩), .pointer (some ⟨(w.heap.size + 1), 0, none⟩), .pointer (some ⟨(w.heap.size + 1 + 1), 0, none⟩), t 4, t 5, t 6, .int .i64 (k : Int), .pointer (some ⟨wr.heap.size, 0, none⟩), .int .i64 (1000 + 35 * y0), t 10, t 11, t 12, t 13, t 14, t 15, t 16, t 17, t 18, t 19, t 20, t 21, t 22, t 23, t 24, t 25, t 26, t 27, t 28, t 29, t 30, t 31, t 32, t 33, t 34, t 35, t 36, t 37, t 38, t 39, t 40, t 41, t 42, t 43, t 44, t 45, t 46, t 47, t 48, t 49, t 50, t 51, t 52, t 53, t 54, t 55, t 56, t 57, t 58, t 59, t 60, t 61, t 62, t 63, t 64, t 65, t 66, t 67, t 68, t 69, t 70, t 71, t 72, t 73, t 74, t 75, t 76, t 77, t 78, t 79, t 80, t 81, t 82, t 83, t 84, t 85, t 86, t 87, t 88, t 89, t 90, t 91, t 92, t 93, t 94, t 95, r 96, r 97, r 98, r 99, r 100, r 101, r 102, r 103, r 104, r 105, r 106, r 107, r 108, r 109, r 110, r 111, r 112, r 113, r 114, r 115, r 116, r 117, r 118, r 119, r 120, r 121, r 122, r 123, r 124, r 125, r 126, x 0, x 1, x 2, x 3, x 4, x 5, x 6, x 7, x 8, x 9, x 10, x 11, x 12, x 13, x 14, x 15, x 16, x 17, x 18, x 19, x 20, x 21, x 22, x 23, x 24, x 25, x 26, x 27, x 28, r 156, r 157, undef], []⟩ : Act) v
                    refine wpOp_step rfl (fun K' hK' => ?_)
                    go_simp
                    exact hK' _ _ (hK _ _ (Below.refl _ _) (at_of rfl (rfl)))
                  · show wpOp Try.prog _ _ 5 K (⟨#[t 0, .pointer (some ⟨w.heap.size, 0, none⟩), .pointer (some ⟨(w.heap.size + 1), 0, none⟩), .pointer (some ⟨(w.heap.size + 1 + 1), 0, none⟩), t 4, t 5, t 6, .int .i64 (k : Int), .pointer (some ⟨wr.heap.size, 0, none⟩), .int .i64 (1000 + 35 * y0), t 10, t 11, t 12, t 13, t 14, t 15, t 16, t 17, t 18, t 19, t 20, t 21, t 22, t 23, t 24, t 25, t 26, t 27, t 28, t 29, t 30, t 31, t 32, t 33, t 34, t 35, t 36, t 37, t 38, t 39, t 40, t 41, t 42, t 43, t 44, t 45, t 46, t 47, t 48, t 49, t 50, t 51, t 52, t 53, t 54, t 55, t 56, t 57, t 58, t 59, t 60, t 61, t 62, t 63, t 64, t 65, t 66, t 67, t 68, t 69, t 70, t 71, t 72, t 73, t 74, t 75, t 76, t 77, t 78, t 79, t 80, t 81, t 82, t 83, t 84, t 85, t 86, t 87, t 88, t 89, t 90, t 91, t 92, t 93, t 94, t 95, r 96, r 97, r 98, r 99, r 100, r 101, r 102, r 103, r 104, r 105, r 106, r 107, r 108, r 109, r 110, r 111, r 112, r 113, r 114, r 115, r 116, r 117, r 118, r 119, r 120, r 121, r 122, r 123, r 124, r 125, r 126, x 0, x 1, x 2, x 3, x 4, x 5, x 6, x 7, x 8, x 9, x 10, x 11, x 12, x 13, x 14, x 15, x 16, x 17, x 18, x 19, x 20, x 21, x 22, x 23, x 24, x 25, x 26, x 27, x 28, r 156, r 157, undef], []⟩ : Act) v
                    refine wpOp_step rfl (fun K' hK' => ?_)
                    go_simp
                    exact hK' _ _ (hK _ _ (Below.refl _ _) (at_of rfl (rfl)))
                  · obtain ⟨x, rfl⟩ := upd_of (show x 5 = .pointer (some ⟨wr.heap.size, 1, none⟩) from hd 5 _ (by simp) rfl)
                    show wpOp Try.prog _ _ 6 K (⟨#[t 0, .pointer (some ⟨w.heap.size, 0, none⟩), .pointer (some ⟨(w.heap.size + 1), 0, none⟩), .pointer (some ⟨(w.heap.size + 1 + 1), 0, none⟩), t 4, t 5, t 6, .int .i64 (k : Int), .pointer (some ⟨wr.heap.size, 0, none⟩), .int .i64 (1000 + 35 * y0), t 10, t 11, t 12, t 13, t 14, t 15, t 16, t 17, t 18, t 19, t 20, t 21, t 22, t 23, t 24, t 25, t 26, t 27, t 28, t 29, t 30, t 31, t 32, t 33, t 34, t 35, t 36, t 37, t 38, t 39, t 40, t 41, t 42, t 43, t 44, t 45, t 46, t 47, t 48, t 49, t 50, t 51, t 52, t 53, t 54, t 55, t 56, t 57, t 58, t 59, t 60, t 61, t 62, t 63, t 64, t 65, t 66, t 67, t 68, t 69, t 70, t 71, t 72, t 73, t 74, t 75, t 76, t 77, t 78, t 79, t 80, t 81, t 82, t 83, t 84, t 85, t 86, t 87, t 88, t 89, t 90, t 91, t 92, t 93, t 94, t 95, r 96, r 97, r 98, r 99, r 100, r 101, r 102, r 103, r 104, r 105, r 106, r 107, r 108, r 109, r 110, r 111, r 112, r 113, r 114, r 115, r 116, r 117, r 118, r 119, r 120, r 121, r 122, r 123, r 124, r 125, r 126, x 0, x 1, x 2, x 3, x 4, .pointer (some ⟨wr.heap.size, 1, none⟩), x 6, x 7, x 8, x 9, x 10, x 11, x 12, x 13, x 14, x 15, x 16, x 17, x 18, x 19, x 20, x 21, x 22, x 23, x 24, x 25, x 26, x 27, x 28, r 156, r 157, undef], []⟩ : Act) v
                    refine wpOp_step rfl (fun K' hK' => ?_)
                    have q := (ov.1.keep gv).2 1 _ rfl
                    go_simp
                    exact hK' _ _ (hK _ _ (Below.refl _ _) (at_of rfl (rfl)))
                  · obtain ⟨x, rfl⟩ := upd_of (show x 6 = .int .u8 y1 from hd 6 _ (by simp) rfl)
                    show wpOp Try.prog _ _ 7 K (⟨#[t 0, .pointer (some ⟨w.heap.size, 0, none⟩), .pointer (some ⟨(w.heap.size + 1), 0, none⟩), .pointer (some ⟨(w.heap.size + 1 + 1), 0, none⟩), t 4, t 5, t 6, .int .i64 (k : Int), .pointer (some ⟨wr.heap.size, 0, none⟩), .int .i64 (1000 + 35 * y0), t 10, t 11, t 12, t 13, t 14, t 15, t 16, t 17, t 18, t 19, t 20, t 21, t 22, t 23, t 24, t 25, t 26, t 27, t 28, t 29, t 30, t 31, t 32, t 33, t 34, t 35, t 36, t 37, t 38, t 39, t 40, t 41, t 42, t 43, t 44, t 45, t 46, t 47, t 48, t 49, t 50, t 51, t 52, t 53, t 54, t 55, t 56, t 57, t 58, t 59, t 60, t 61, t 62, t 63, t 64, t 65, t 66, t 67, t 68, t 69, t 70, t 71, t 72, t 73, t 74, t 75, t 76, t 77, t 78, t 79, t 80, t 81, t 82, t 83, t 84, t 85, t 86, t 87, t 88, t 89, t 90, t 91, t 92, t 93, t 94, t 95, r 96, r 97, r 98, r 99, r 100, r 101, r 102, r 103, r 104, r 105, r 106, r 107, r 108, r 109, r 110, r 111, r 112, r 113, r 114, r 115, r 116, r 117, r 118, r 119, r 120, r 121, r 122, r 123, r 124, r 125, r 126, x 0, x 1, x 2, x 3, x 4, x 5, .int .u8 y1, x 7, x 8, x 9, x 10, x 11, x 12, x 13, x 14, x 15, x 16, x 17, x 18, x 19, x 20, x 21, x 22, x 23, x 24, x 25, x 26, x 27, x 28, r 156, r 157, undef], []⟩ : Act) v
                    refine wpOp_step rfl (fun K' hK' => ?_)
                    go_simp
                    exact hK' _ _ (hK _ _ (Below.refl _ _) (at_of rfl (rfl)))
                  · obtain ⟨x, rfl⟩ := upd_of (show x 4 = .int .i64 (1000 + 35 * y0) from hd 4 _ (by simp) rfl)
                    obtain ⟨x, rfl⟩ := upd_of (show x 7 = .int .i64 y1 from hd 7 _ (by simp) rfl)
                    show wpOp Try.prog _ _ 8 K (⟨#[t 0, .pointer (some ⟨w.heap.size, 0, none⟩), .pointer (some ⟨(w.heap.size + 1), 0, none⟩), .pointer (some ⟨(w.heap.size + 1 + 1), 0, none⟩), t 4, t 5, t 6, .int .i64 (k : Int), .pointer (some ⟨wr.heap.size, 0, none⟩), .int .i64 (1000 + 35 * y0), t 10, t 11, t 12, t 13, t 14, t 15, t 16, t 17, t 18, t 19, t 20, t 21, t 22, t 23, t 24, t 25, t 26, t 27, t 28, t 29, t 30, t 31, t 32, t 33, t 34, t 35, t 36, t 37, t 38, t 39, t 40, t 41, t 42, t 43, t 44, t 45, t 46, t 47, t 48, t 49, t 50, t 51, t 52, t 53, t 54, t 55, t 56, t 57, t 58, t 59, t 60, t 61, t 62, t 63, t 64, t 65, t 66, t 67, t 68, t 69, t 70, t 71, t 72, t 73, t 74, t 75, t 76, t 77, t 78, t 79, t 80, t 81, t 82, t 83, t 84, t 85, t 86, t 87, t 88, t 89, t 90, t 91, t 92, t 93, t 94, t 95, r 96, r 97, r 98, r 99, r 100, r 101, r 102, r 103, r 104, r 105, r 106, r 107, r 108, r 109, r 110, r 111, r 112, r 113, r 114, r 115, r 116, r 117, r 118, r 119, r 120, r 121, r 122, r 123, r 124, r 125, r 126, x 0, x 1, x 2, x 3, .int .i64 (1000 + 35 * y0), x 5, x 6, .int .i64 y1, x 8, x 9, x 10, x 11, x 12, x 13, x 14, x 15, x 16, x 17, x 18, x 19, x 20, x 21, x 22, x 23, x 24, x 25, x 26, x 27, x 28, r 156, r 157, undef], []⟩ : Act) v
                    refine wpOp_step rfl (fun K' hK' => ?_)
                    go_simp
                    exact hK' _ _ (hK _ _ (Below.refl _ _) (at_of rfl (rfl)))
                  · obtain ⟨x, rfl⟩ := upd_of (show x 8 = .int .i64 ((1000 + 35 * y0) * y1) from hd 8 _ (by simp) rfl)
                    show wpOp Try.prog _ _ 9 K (⟨#[t 0, .pointer (some ⟨w.heap.size, 0, none⟩), .pointer (some ⟨(w.heap.size + 1), 0, none⟩), .pointer (some ⟨(w.heap.size + 1 + 1), 0, none⟩), t 4, t 5, t 6, .int .i64 (k : Int), .pointer (some ⟨wr.heap.size, 0, none⟩), .int .i64 (1000 + 35 * y0), t 10, t 11, t 12, t 13, t 14, t 15, t 16, t 17, t 18, t 19, t 20, t 21, t 22, t 23, t 24, t 25, t 26, t 27, t 28, t 29, t 30, t 31, t 32, t 33, t 34, t 35, t 36, t 37, t 38, t 39, t 40, t 41, t 42, t 43, t 44, t 45, t 46, t 47, t 48, t 49, t 50, t 51, t 52, t 53, t 54, t 55, t 56, t 57, t 58, t 59, t 60, t 61, t 62, t 63, t 64, t 65, t 66, t 67, t 68, t 69, t 70, t 71, t 72, t 73, t 74, t 75, t 76, t 77, t 78, t 79, t 80, t 81, t 82, t 83, t 84, t 85, t 86, t 87, t 88, t 89, t 90, t 91, t 92, t 93, t 94, t 95, r 96, r 97, r 98, r 99, r 100, r 101, r 102, r 103, r 104, r 105, r 106, r 107, r 108, r 109, r 110, r 111, r 112, r 113, r 114, r 115, r 116, r 117, r 118, r 119, r 120, r 121, r 122, r 123, r 124, r 125, r 126, x 0, x 1, x 2, x 3, x 4, x 5, x 6, x 7, .int .i64 ((1000 + 35 * y0) * y1), x 9, x 10, x 11, x 12, x 13, x 14, x 15, x 16, x 17, x 18, x 19, x 20, x 21, x 22, x 23, x 24, x 25, x 26, x 27, x 28, r 156, r 157, undef], []⟩ : Act) v
                    refine wpOp_step rfl (fun K' hK' => ?_)
                    go_simp
                    exact hK' _ _ (hK _ _ (Below.refl _ _) (at_of rfl (rfl)))
                  · obtain ⟨x, rfl⟩ := upd_of (show x 3 = .int .i64 (1000 + 35 * y0) from hd 3 _ (by simp) rfl)
                    obtain ⟨x, rfl⟩ := upd_of (show x 9 = .int .i64 (((1000 + 35 * y0) * y1) / 255) from hd 9 _ (by simp) rfl)
                    show wpOp Try.prog _ _ 10 K (⟨#[t 0, .pointer (some ⟨w.heap.size, 0, none⟩), .pointer (some ⟨(w.heap.size + 1), 0, none⟩), .pointer (some ⟨(w.heap.size + 1 + 1), 0, none⟩), t 4, t 5, t 6, .int .i64 (k : Int), .pointer (some ⟨wr.heap.size, 0, none⟩), .int .i64 (1000 + 35 * y0), t 10, t 11, t 12, t 13, t 14, t 15, t 16, t 17, t 18, t 19, t 20, t 21, t 22, t 23, t 24, t 25, t 26, t 27, t 28, t 29, t 30, t 31, t 32, t 33, t 34, t 35, t 36, t 37, t 38, t 39, t 40, t 41, t 42, t 43, t 44, t 45, t 46, t 47, t 48, t 49, t 50, t 51, t 52, t 53, t 54, t 55, t 56, t 57, t 58, t 59, t 60, t 61, t 62, t 63, t 64, t 65, t 66, t 67, t 68, t 69, t 70, t 71, t 72, t 73, t 74, t 75, t 76, t 77, t 78, t 79, t 80, t 81, t 82, t 83, t 84, t 85, t 86, t 87, t 88, t 89, t 90, t 91, t 92, t 93, t 94, t 95, r 96, r 97, r 98, r 99, r 100, r 101, r 102, r 103, r 104, r 105, r 106, r 107, r 108, r 109, r 110, r 111, r 112, r 113, r 114, r 115, r 116, r 117, r 118, r 119, r 120, r 121, r 122, r 123, r 124, r 125, r 126, x 0, x 1, x 2, .int .i64 (1000 + 35 * y0), x 4, x 5, x 6, x 7, x 8, .int .i64 (((1000 + 35 * y0) * y1) / 255), x 10, x 11, x 12, x 13, x 14, x 15, x 16, x 17, x 18, x 19, x 20, x 21, x 22, x 23, x 24, x 25, x 26, x 27, x 28, r 156, r 157, undef], []⟩ : Act) v
                    refine wpOp_step rfl (fun K' hK' => ?_)
                    go_simp
                    exact hK' _ _ (hK _ _ (Below.refl _ _) (at_of rfl (rfl)))
                  · show wpOp Try.prog _ _ 11 K (⟨#[t 0, .pointer (some ⟨w.heap.size, 0, none⟩), .pointer (some ⟨(w.heap.size + 1), 0, none⟩), .pointer (some ⟨(w.heap.size + 1 + 1), 0, none⟩), t 4, t 5, t 6, .int .i64 (k : Int), .pointer (some ⟨wr.heap.size, 0, none⟩), .int .i64 (1000 + 35 * y0), t 10, t 11, t 12, t 13, t 14, t 15, t 16, t 17, t 18, t 19, t 20, t 21, t 22, t 23, t 24, t 25, t 26, t 27, t 28, t 29, t 30, t 31, t 32, t 33, t 34, t 35, t 36, t 37, t 38, t 39, t 40, t 41, t 42, t 43, t 44, t 45, t 46, t 47, t 48, t 49, t 50, t 51, t 52, t 53, t 54, t 55, t 56, t 57, t 58, t 59, t 60, t 61, t 62, t 63, t 64, t 65, t 66, t 67, t 68, t 69, t 70, t 71, t 72, t 73, t 74, t 75, t 76, t 77, t 78, t 79, t 80, t 81, t 82, t 83, t 84, t 85, t 86, t 87, t 88, t 89, t 90, t 91, t 92, t 93, t 94, t 95, r 96, r 97, r 98, r 99, r 100, r 101, r 102, r 103, r 104, r 105, r 106, r 107, r 108, r 109, r 110, r 111, r 112, r 113, r 114, r 115, r 116, r 117, r 118, r 119, r 120, r 121, r 122, r 123, r 124, r 125, r 126, x 0, x 1, x 2, x 3, x 4, x 5, x 6, x 7, x 8, x 9, x 10, x 11, x 12, x 13, x 14, x 15, x 16, x 17, x 18, x 19, x 20, x 21, x 22, x 23, x 24, x 25, x 26, x 27, x 28, r 156, r 157, undef], []⟩ : Act) v
                    refine wpOp_step rfl (fun K' hK' => ?_)
                    go_simp
                    exact hK' _ _ (hK _ _ (Below.refl _ _) (at_of rfl (rfl)))
                  · obtain ⟨x, rfl⟩ := upd_of (show x 11 = .pointer (some ⟨wr.heap.size, 2, none⟩) from hd 11 _ (by simp) rfl)
                    show wpOp Try.prog _ _ 12 K (⟨#[t 0, .pointer (some ⟨w.heap.size, 0, none⟩), .pointer (some ⟨(w.heap.size + 1), 0, none⟩), .pointer (some ⟨(w.heap.size + 1 + 1), 0, none⟩), t 4, t 5, t 6, .int .i64 (k : Int), .pointer (some ⟨wr.heap.size, 0, none⟩), .int .i64 (1000 + 35 * y0), t 10, t 11, t 12, t 13, t 14, t 15, t 16, t 17, t 18, t 19, t 20, t 21, t 22, t 23, t 24, t 25, t 26, t 27, t 28, t 29, t 30, t 31, t 32, t 33, t 34, t 35, t 36, t 37, t 38, t 39, t 40, t 41, t 42, t 43, t 44, t 45, t 46, t 47, t 48, t 49, t 50, t 51, t 52, t 53, t 54, t 55, t 56, t 57, t 58, t 59, t 60, t 61, t 62, t 63, t 64, t 65, t 66, t 67, t 68, t 69, t 70, t 71, t 72, t 73, t 74, t 75, t 76, t 77, t 78, t 79, t 80, t 81, t 82, t 83, t 84, t 85, t 86, t 87, t 88, t 89, t 90, t 91, t 92, t 93, t 94, t 95, r 96, r 97, r 98, r 99, r 100, r 101, r 102, r 103, r 104, r 105, r 106, r 107, r 108, r 109, r 110, r 111, r 112, r 113, r 114, r 115, r 116, r 117, r 118, r 119, r 120, r 121, r 122, r 123, r 124, r 125, r 126, x 0, x 1, x 2, x 3, x 4, x 5, x 6, x 7, x 8, x 9, x 10, .pointer (some ⟨wr.heap.size, 2, none⟩), x 12, x 13, x 14, x 15, x 16, x 17, x 18, x 19, x 20, x 21, x 22, x 23, x 24, x 25, x 26, x 27, x 28, r 156, r 157, undef], []⟩ : Act) v
                    refine wpOp_step rfl (fun K' hK' => ?_)
                    have q := (ov.1.keep gv).2 2 _ rfl
                    go_simp
                    exact hK' _ _ (hK _ _ (Below.refl _ _) (at_of rfl (rfl)))
                  · obtain ⟨x, rfl⟩ := upd_of (show x 12 = .int .u8 y2 from hd 12 _ (by simp) rfl)
                    show wpOp Try.prog _ _ 13 K (⟨#[t 0, .pointer (some ⟨w.heap.size, 0, none⟩), .pointer (some ⟨(w.heap.size + 1), 0, none⟩), .pointer (some ⟨(w.heap.size + 1 + 1), 0, none⟩), t 4, t 5, t 6, .int .i64 (k : Int), .pointer (some ⟨wr.heap.size, 0, none⟩), .int .i64 (1000 + 35 * y0), t 10, t 11, t 12, t 13, t 14, t 15, t 16, t 17, t 18, t 19, t 20, t 21, t 22, t 23, t 24, t 25, t 26, t 27, t 28, t 29, t 30, t 31, t 32, t 33, t 34, t 35, t 36, t 37, t 38, t 39, t 40, t 41, t 42, t 43, t 44, t 45, t 46, t 47, t 48, t 49, t 50, t 51, t 52, t 53, t 54, t 55, t 56, t 57, t 58, t 59, t 60, t 61, t 62, t 63, t 64, t 65, t 66, t 67, t 68, t 69, t 70, t 71, t 72, t 73, t 74, t 75, t 76, t 77, t 78, t 79, t 80, t 81, t 82, t 83, t 84, t 85, t 86, t 87, t 88, t 89, t 90, t 91, t 92, t 93, t 94, t 95, r 96, r 97, r 98, r 99, r 100, r 101, r 102, r 103, r 104, r 105, r 106, r 107, r 108, r 109, r 110, r 111, r 112, r 113, r 114, r 115, r 116, r 117, r 118, r 119, r 120, r 121, r 122, r 123, r 124, r 125, r 126, x 0, x 1, x 2, x 3, x 4, x 5, x 6, x 7, x 8, x 9, x 10, x 11, .int .u8 y2, x 13, x 14, x 15, x 16, x 17, x 18, x 19, x 20, x 21, x 22, x 23, x 24, x 25, x 26, x 27, x 28, r 156, r 157, undef], []⟩ : Act) v
                    refine wpOp_step rfl (fun K' hK' => ?_)
                    go_simp
                    exact hK' _ _ (hK _ _ (Below.refl _ _) (at_of rfl (rfl)))
                  · obtain ⟨x, rfl⟩ := upd_of (show x 13 = .int .i64 y2 from hd 13 _ (by simp) rfl)
                    show wpOp Try.prog _ _ 14 K (⟨#[t 0, .pointer (some ⟨w.heap.size, 0, none⟩), .pointer (some ⟨(w.heap.size + 1), 0, none⟩), .pointer (some ⟨(w.heap.size + 1 + 1), 0, none⟩), t 4, t 5, t 6, .int .i64 (k : Int), .pointer (some ⟨wr.heap.size, 0, none⟩), .int .i64 (1000 + 35 * y0), t 10, t 11, t 12, t 13, t 14, t 15, t 16, t 17, t 18, t 19, t 20, t 21, t 22, t 23, t 24, t 25, t 26, t 27, t 28, t 29, t 30, t 31, t 32, t 33, t 34, t 35, t 36, t 37, t 38, t 39, t 40, t 41, t 42, t 43, t 44, t 45, t 46, t 47, t 48, t 49, t 50, t 51, t 52, t 53, t 54, t 55, t 56, t 57, t 58, t 59, t 60, t 61, t 62, t 63, t 64, t 65, t 66, t 67, t 68, t 69, t 70, t 71, t 72, t 73, t 74, t 75, t 76, t 77, t 78, t 79, t 80, t 81, t 82, t 83, t 84, t 85, t 86, t 87, t 88, t 89, t 90, t 91, t 92, t 93, t 94, t 95, r 96, r 97, r 98, r 99, r 100, r 101, r 102, r 103, r 104, r 105, r 106, r 107, r 108, r 109, r 110, r 111, r 112, r 113, r 114, r 115, r 116, r 117, r 118, r 119, r 120, r 121, r 122, r 123, r 124, r 125, r 126, x 0, x 1, x 2, x 3, x 4, x 5, x 6, x 7, x 8, x 9, x 10, x 11, x 12, .int .i64 y2, x 14, x 15, x 16, x 17, x 18, x 19, x 20, x 21, x 22, x 23, x 24, x 25, x 26, x 27, x 28, r 156, r 157, undef], []⟩ : Act) v
                    refine wpOp_step rfl (fun K' hK' => ?_)
                    go_simp
                    exact hK' _ _ (hK _ _ (Below.refl _ _) (at_of rfl (rfl)))
                  · obtain ⟨x, rfl⟩ := upd_of (show x 14 = .int .i64 (10 * y2) from hd 14 _ (by simp) rfl)
                    show wpOp Try.prog _ _ 15 K (⟨#[t 0, .pointer (some ⟨w.heap.size, 0, none⟩), .pointer (some ⟨(w.heap.size + 1), 0, none⟩), .pointer (some ⟨(w.heap.size + 1 + 1), 0, none⟩), t 4, t 5, t 6, .int .i64 (k : Int), .pointer (some ⟨wr.heap.size, 0, none⟩), .int .i64 (1000 + 35 * y0), t 10, t 11, t 12, t 13, t 14, t 15, t 16, t 17, t 18, t 19, t 20, t 21, t 22, t 23, t 24, t 25, t 26, t 27, t 28, t 29, t 30, t 31, t 32, t 33, t 34, t 35, t 36, t 37, t 38, t 39, t 40, t 41, t 42, t 43, t 44, t 45, t 46, t 47, t 48, t 49, t 50, t 51, t 52, t 53, t 54, t 55, t 56, t 57, t 58, t 59, t 60, t 61, t 62, t 63, t 64, t 65, t 66, t 67, t 68, t 69, t 70, t 71, t 72, t 73, t 74, t 75, t 76, t 77, t 78, t 79, t 80, t 81, t 82, t 83, t 84, t 85, t 86, t 87, t 88, t 89, t 90, t 91, t 92, t 93, t 94, t 95, r 96, r 97, r 98, r 99, r 100, r 101, r 102, r 103, r 104, r 105, r 106, r 107, r 108, r 109, r 110, r 111, r 112, r 113, r 114, r 115, r 116, r 117, r 118, r 119, r 120, r 121, r 122, r 123, r 124, r 125, r 126, x 0, x 1, x 2, x 3, x 4, x 5, x 6, x 7, x 8, x 9, x 10, x 11, x 12, x 13, .int .i64 (10 * y2), x 15, x 16, x 17, x 18, x 19, x 20, x 21, x 22, x 23, x 24, x 25, x 26, x 27, x 28, r 156, r 157, undef], []⟩ : Act) v
                    refine wpOp_step rfl (fun K' hK' => ?_)
                    go_simp
                    exact hK' _ _ (hK _ _ (Below.refl _ _) (at_of rfl (rfl)))
                  · show wpOp Try.prog _ _ 16 K (⟨#[t 0, .pointer (some ⟨w.heap.size, 0, none⟩), .pointer (some ⟨(w.heap.size + 1), 0, none⟩), .pointer (some ⟨(w.heap.size + 1 + 1), 0, none⟩), t 4, t 5, t 6, .int .i64 (k : Int), .pointer (some ⟨wr.heap.size, 0, none⟩), .int .i64 (1000 + 35 * y0), t 10, t 11, t 12, t 13, t 14, t 15, t 16, t 17, t 18, t 19, t 20, t 21, t 22, t 23, t 24, t 25, t 26, t 27, t 28, t 29, t 30, t 31, t 32, t 33, t 34, t 35, t 36, t 37, t 38, t 39, t 40, t 41, t 42, t 43, t 44, t 45, t 46, t 47, t 48, t 49, t 50, t 51, t 52, t 53, t 54, t 55, t 56, t 57, t 58, t 59, t 60, t 61, t 62, t 63, t 64, t 65, t 66, t 67, t 68, t 69, t 70, t 71, t 72, t 73, t 74, t 75, t 76, t 77, t 78, t 79, t 80, t 81, t 82, t 83, t 84, t 85, t 86, t 87, t 88, t 89, t 90, t 91, t 92, t 93, t 94, t 95, r 96, r 97, r 98, r 99, r 100, r 101, r 102, r 103, r 104, r 105, r 106, r 107, r 108, r 109, r 110, r 111, r 112, r 113, r 114, r 115, r 116, r 117, r 118, r 119, r 120, r 121, r 122, r 123, r 124, r 125, r 126, x 0, x 1, x 2, x 3, x 4, x 5, x 6, x 7, x 8, x 9, x 10, x 11, x 12, x 13, x 14, x 15, x 16, x 17, x 18, x 19, x 20, x 21, x 22, x 23, x 24, x 25, x 26, x 27, x 28, r 156, r 157, undef], []⟩ : Act) v
                    refine wpOp_step rfl (fun K' hK' => ?_)
                    go_simp
                    exact hK' _ _ (hK _ _ (Below.refl _ _) (at_of rfl (rfl)))
                  · obtain ⟨x, rfl⟩ := upd_of (show x 16 = .pointer (some ⟨wr.heap.size, 2, none⟩) from hd 16 _ (by simp) rfl)
                    show wpOp Try.prog _ _ 17 K (⟨#[t 0, .pointer (some ⟨w.heap.size, 0, none⟩), .pointer (some ⟨(w.heap.size + 1), 0, none⟩), .pointer (some ⟨(w.heap.size + 1 + 1), 0, none⟩), t 4, t 5, t 6, .int .i64 (k : Int), .pointer (some ⟨wr.heap.size, 0, none⟩), .int .i64 (1000 + 35 * y0), t 10, t 11, t 12, t 13, t 14, t 15, t 16, t 17, t 18, t 19, t 20, t 21, t 22, t 23, t 24, t 25, t 26, t 27, t 28, t 29, t 30, t 31, t 32, t 33, t 34, t 35, t 36, t 37, t 38, t 39, t 40, t 41, t 42, t 43, t 44, t 45, t 46, t 47, t 48, t 49, t 50, t 51, t 52, t 53, t 54, t 55, t 56, t 57, t 58, t 59, t 60, t 61, t 62, t 63, t 64, t 65, t 66, t 67, t 68, t 69, t 70, t 71, t 72, t 73, t 74, t 75, t 76, t 77, t 78, t 79, t 80, t 81, t 82, t 83, t 84, t 85, t 86, t 87, t 88, t 89, t 90, t 91, t 92, t 93, t 94, t 95, r 96, r 97, r 98, r 99, r 100, r 101, r 102, r 103, r 104, r 105, r 106, r 107, r 108, r 109, r 110, r 111, r 112, r 113, r 114, r 115, r 116, r 117, r 118, r 119, r 120, r 121, r 122, r 123, r 124, r 125, r 126, x 0, x 1, x 2, x 3, x 4, x 5, x 6, x 7, x 8, x 9, x 10, x 11, x 12, x 13, x 14, x 15, .pointer (some ⟨wr.heap.size, 2, none⟩), x 17, x 18, x 19, x 20, x 21, x 22, x 23, x 24, x 25, x 26, x 27, x 28, r 156, r 157, undef], []⟩ : Act) v
                    refine wpOp_step rfl (fun K' hK' => ?_)
                    have q := (ov.1.keep gv).2 2 _ rfl
                    go_simp
                    exact hK' _ _ (hK _ _ (Below.refl _ _) (at_of rfl (rfl)))
                  · obtain ⟨x, rfl⟩ := upd_of (show x 17 = .int .u8 y2 from hd 17 _ (by simp) rfl)
                    show wpOp Try.prog _ _ 18 K (⟨#[t 0, .pointer (some ⟨w.heap.size, 0, none⟩), .pointer (some ⟨(w.heap.size + 1), 0, none⟩), .pointer (some ⟨(w.heap.size + 1 + 1), 0, none⟩), t 4, t 5, t 6, .int .i64 (k : Int), .pointer (some ⟨wr.heap.size, 0, none⟩), .int .i64 (1000 + 35 * y0), t 10, t 11, t 12, t 13, t 14, t 15, t 16, t 17, t 18, t 19, t 20, t 21, t 22, t 23, t 24, t 25, t 26, t 27, t 28, t 29, t 30, t 31, t 32, t 33, t 34, t 35, t 36, t 37, t 38, t 39, t 40, t 41, t 42, t 43, t 44, t 45, t 46, t 47, t 48, t 49, t 50, t 51, t 52, t 53, t 54, t 55, t 56, t 57, t 58, t 59, t 60, t 61, t 62, t 63, t 64, t 65, t 66, t 67, t 68, t 69, t 70, t 71, t 72, t 73, t 74, t 75, t 76, t 77, t 78, t 79, t 80, t 81, t 82, t 83, t 84, t 85, t 86, t 87, t 88, t 89, t 90, t 91, t 92, t 93, t 94, t 95, r 96, r 97, r 98, r 99, r 100, r 101, r 102, r 103, r 104, r 105, r 106, r 107, r 108, r 109, r 110, r 111, r 112, r 113, r 114, r 115, r 116, r 117, r 118, r 119, r 120, r 121, r 122, r 123, r 124, r 125, r 126, x 0, x 1, x 2, x 3, x 4, x 5, x 6, x 7, x 8, x 9, x 10, x 11, x 12, x 13, x 14, x 15, x 16, .int .u8 y2, x 18, x 19, x 20, x 21, x 22, x 23, x 24, x 25, x 26, x 27, x 28, r 156, r 157, undef], []⟩ : Act) v
                    refine wpOp_step rfl (fun K' hK' => ?_)
                    go_simp
                    exact hK' _ _ (hK _ _ (Below.refl _ _) (at_of rfl (rfl)))
                  · obtain ⟨x, rfl⟩ := upd_of (show x 18 = .int .i64 y2 from hd 18 _ (by simp) rfl)
                    show wpOp Try.prog _ _ 19 K (⟨#[t 0, .pointer (some ⟨w.heap.size, 0, none⟩), .pointer (some ⟨(w.heap.size + 1), 0, none⟩), .pointer (some ⟨(w.heap.size + 1 + 1), 0, none⟩), t 4, t 5, t 6, .int .i64 (k : Int), .pointer (some ⟨wr.heap.size, 0, none⟩), .int .i64 (1000 + 35 * y0), t 10, t 11, t 12, t 13, t 14, t 15, t 16, t 17, t 18, t 19, t 20, t 21, t 22, t 23, t 24, t 25, t 26, t 27, t 28, t 29, t 30, t 31, t 32, t 33, t 34, t 35, t 36, t 37, t 38, t 39, t 40, t 41, t 42, t 43, t 44, t 45, t 46, t 47, t 48, t 49, t 50, t 51, t 52, t 53, t 54, t 55, t 56, t 57, t 58, t 59, t 60, t 61, t 62, t 63, t 64, t 65, t 66, t 67, t 68, t 69, t 70, t 71, t 72, t 73, t 74, t 75, t 76, t 77, t 78, t 79, t 80, t 81, t 82, t 83, t 84, t 85, t 86, t 87, t 88, t 89, t 90, t 91, t 92, t 93, t 94, t 95, r 96, r 97, r 98, r 99, r 100, r 101, r 102, r 103, r 104, r 105, r 106, r 107, r 108, r 109, r 110, r 111, r 112, r 113, r 114, r 115, r 116, r 117, r 118, r 119, r 120, r 121, r 122, r 123, r 124, r 125, r 126, x 0, x 1, x 2, x 3, x 4, x 5, x 6, x 7, x 8, x 9, x 10, x 11, x 12, x 13, x 14, x 15, x 16, x 17, .int .i64 y2, x 19, x 20, x 21, x 22, x 23, x 24, x 25, x 26, x 27, x 28, r 156, r 157, undef], []⟩ : Act) v
                    refine wpOp_step rfl (fun K' hK' => ?_)
                    go_simp
                    exact hK' _ _ (hK _ _ (Below.refl _ _) (at_of rfl (rfl)))
                  · obtain ⟨x, rfl⟩ := upd_of (show x 19 = .int .i64 (10 * y2) from hd 19 _ (by simp) rfl)
                    show wpOp Try.prog _ _ 20 K (⟨#[t 0, .pointer (some ⟨w.heap.size, 0, none⟩), .pointer (some ⟨(w.heap.size + 1), 0, none⟩), .pointer (some ⟨(w.heap.size + 1 + 1), 0, none⟩), t 4, t 5, t 6, .int .i64 (k : Int), .pointer (some ⟨wr.heap.size, 0, none⟩), .int .i64 (1000 + 35 * y0), t 10, t 11, t 12, t 13, t 14, t 15, t 16, t 17, t 18, t 19, t 20, t 21, t 22, t 23, t 24, t 25, t 26, t 27, t 28, t 29, t 30, t 31, t 32, t 33, t 34, t 35, t 36, t 37, t 38, t 39, t 40, t 41, t 42, t 43, t 44, t 45, t 46, t 47, t 48, t 49, t 50, t 51, t 52, t 53, t 54, t 55, t 56, t 57, t 58, t 59, t 60, t 61, t 62, t 63, t 64, t 65, t 66, t 67, t 68, t 69, t 70, t 71, t 72, t 73, t 74, t 75, t 76, t 77, t 78, t 79, t 80, t 81, t 82, t 83, t 84, t 85, t 86, t 87, t 88, t 89, t 90, t 91, t 92, t 93, t 94, t 95, r 96, r 97, r 98, r 99, r 100, r 101, r 102, r 103, r 104, r 105, r 106, r 107, r 108, r 109, r 110, r 111, r 112, r 113, r 114, r 115, r 116, r 117, r 118, r 119, r 120, r 121, r 122, r 123, r 124, r 125, r 126, x 0, x 1, x 2, x 3, x 4, x 5, x 6, x 7, x 8, x 9, x 10, x 11, x 12, x 13, x 14, x 15, x 16, x 17, x 18, .int .i64 (10 * y2), x 20, x 21, x 22, x 23, x 24, x 25, x 26, x 27, x 28, r 156, r 157, undef], []⟩ : Act) v
                    refine wpOp_step rfl (fun K' hK' => ?_)
                    go_simp
                    exact hK' _ _ (hK _ _ (Below.refl _ _) (at_of rfl (rfl)))
                  · show wpOp Try.prog _ _ 21 K (⟨#[t 0, .pointer (some ⟨w.heap.size, 0, none⟩), .pointer (some ⟨(w.heap.size + 1), 0, none⟩), .pointer (some ⟨(w.heap.size + 1 + 1), 0, none⟩), t 4, t 5, t 6, .int .i64 (k : Int), .pointer (some ⟨wr.heap.size, 0, none⟩), .int .i64 (1000 + 35 * y0), t 10, t 11, t 12, t 13, t 14, t 15, t 16, t 17, t 18, t 19, t 20, t 21, t 22, t 23, t 24, t 25, t 26, t 27, t 28, t 29, t 30, t 31, t 32, t 33, t 34, t 35, t 36, t 37, t 38, t 39, t 40, t 41, t 42, t 43, t 44, t 45, t 46, t 47, t 48, t 49, t 50, t 51, t 52, t 53, t 54, t 55, t 56, t 57, t 58, t 59, t 60, t 61, t 62, t 63, t 64, t 65, t 66, t 67, t 68, t 69, t 70, t 71, t 72, t 73, t 74, t 75, t 76, t 77, t 78, t 79, t 80, t 81, t 82, t 83, t 84, t 85, t 86, t 87, t 88, t 89, t 90, t 91, t 92, t 93, t 94, t 95, r 96, r 97, r 98, r 99, r 100, r 101, r 102, r 103, r 104, r 105, r 106, r 107, r 108, r 109, r 110, r 111, r 112, r 113, r 114, r 115, r 116, r 117, r 118, r 119, r 120, r 121, r 122, r 123, r 124, r 125, r 126, x 0, x 1, x 2, x 3, x 4, x 5, x 6, x 7, x 8, x 9, x 10, x 11, x 12, x 13, x 14, x 15, x 16, x 17, x 18, x 19, x 20, x 21, x 22, x 23, x 24, x 25, x 26, x 27, x 28, r 156, r 157, undef], []⟩ : Act) v
                    refine wpOp_step rfl (fun K' hK' => ?_)
                    go_simp
                    exact hK' _ _ (hK _ _ (Below.refl _ _) (at_of rfl (rfl)))
                  · obtain ⟨x, rfl⟩ := upd_of (show x 21 = .pointer (some ⟨wr.heap.size, 1, none⟩) from hd 21 _ (by simp) rfl)
                    show wpOp Try.prog _ _ 22 K (⟨#[t 0, .pointer (some ⟨w.heap.size, 0, none⟩), .pointer (some ⟨(w.heap.size + 1), 0, none⟩), .pointer (some ⟨(w.heap.size + 1 + 1), 0, none⟩), t 4, t 5, t 6, .int .i64 (k : Int), .pointer (some ⟨wr.heap.size, 0, none⟩), .int .i64 (1000 + 35 * y0), t 10, t 11, t 12, t 13, t 14, t 15, t 16, t 17, t 18, t 19, t 20, t 21, t 22, t 23, t 24, t 25, t 26, t 27, t 28, t 29, t 30, t 31, t 32, t 33, t 34, t 35, t 36, t 37, t 38, t 39, t 40, t 41, t 42, t 43, t 44, t 45, t 46, t 47, t 48, t 49, t 50, t 51, t 52, t 53, t 54, t 55, t 56, t 57, t 58, t 59, t 60, t 61, t 62, t 63, t 64, t 65, t 66, t 67, t 68, t 69, t 70, t 71, t 72, t 73, t 74, t 75, t 76, t 77, t 78, t 79, t 80, t 81, t 82, t 83, t 84, t 85, t 86, t 87, t 88, t 89, t 90, t 91, t 92, t 93, t 94, t 95, r 96, r 97, r 98, r 99, r 100, r 101, r 102, r 103, r 104, r 105, r 106, r 107, r 108, r 109, r 110, r 111, r 112, r 113, r 114, r 115, r 116, r 117, r 118, r 119, r 120, r 121, r 122, r 123, r 124, r 125, r 126, x 0, x 1, x 2, x 3, x 4, x 5, x 6, x 7, x 8, x 9, x 10, x 11, x 12, x 13, x 14, x 15, x 16, x 17, x 18, x 19, x 20, .pointer (some ⟨wr.heap.size, 1, none⟩), x 22, x 23, x 24, x 25, x 26, x 27, x 28, r 156, r 157, undef], []⟩ : Act) v
                    refine wpOp_step rfl (fun K' hK' => ?_)
                    have q := (ov.1.keep gv).2 1 _ rfl
                    go_simp
                    exact hK' _ _ (hK _ _ (Below.refl _ _) (at_of rfl (rfl)))
                  · obtain ⟨x, rfl⟩ := upd_of (show x 22 = .int .u8 y1 from hd 22 _ (by simp) rfl)
                    show wpOp Try.prog _ _ 23 K (⟨#[t 0, .pointer (some ⟨w.heap.size, 0, none⟩), .pointer (some ⟨(w.heap.size + 1), 0, none⟩), .pointer (some ⟨(w.heap.size + 1 + 1), 0, none⟩), t 4, t 5, t 6, .int .i64 (k : Int), .pointer (some ⟨wr.heap.size, 0, none⟩), .int .i64 (1000 + 35 * y0), t 10, t 11, t 12, t 13, t 14, t 15, t 16, t 17, t 18, t 19, t 20, t 21, t 22, t 23, t 24, t 25, t 26, t 27, t 28, t 29, t 30, t 31, t 32, t 33, t 34, t 35, t 36, t 37, t 38, t 39, t 40, t 41, t 42, t 43, t 44, t 45, t 46, t 47, t 48, t 49, t 50, t 51, t 52, t 53, t 54, t 55, t 56, t 57, t 58, t 59, t 60, t 61, t 62, t 63, t 64, t 65, t 66, t 67, t 68, t 69, t 70, t 71, t 72, t 73, t 74, t 75, t 76, t 77, t 78, t 79, t 80, t 81, t 82, t 83, t 84, t 85, t 86, t 87, t 88, t 89, t 90, t 91, t 92, t 93, t 94, t 95, r 96, r 97, r 98, r 99, r 100, r 101, r 102, r 103, r 104, r 105, r 106, r 107, r 108, r 109, r 110, r 111, r 112, r 113, r 114, r 115, r 116, r 117, r 118, r 119, r 120, r 121, r 122, r 123, r 124, r 125, r 126, x 0, x 1, x 2, x 3, x 4, x 5, x 6, x 7, x 8, x 9, x 10, x 11, x 12, x 13, x 14, x 15, x 16, x 17, x 18, x 19, x 20, x 21, .int .u8 y1, x 23, x 24, x 25, x 26, x 27, x 28, r 156, r 157, undef], []⟩ : Act) v
                    refine wpOp_step rfl (fun K' hK' => ?_)
                    go_simp
                    exact hK' _ _ (hK _ _ (Below.refl _ _) (at_of rfl (rfl)))
                  · obtain ⟨x, rfl⟩ := upd_of (show x 23 = .int .i64 y1 from hd 23 _ (by simp) rfl)
                    show wpOp Try.prog _ _ 24 K (⟨#[t 0, .pointer (some ⟨w.heap.size, 0, none⟩), .pointer (some ⟨(w.heap.size + 1), 0, none⟩), .pointer (some ⟨(w.heap.size + 1 + 1), 0, none⟩), t 4, t 5, t 6, .int .i64 (k : Int), .pointer (some ⟨wr.heap.size, 0, none⟩), .int .i64 (1000 + 35 * y0), t 10, t 11, t 12, t 13, t 14, t 15, t 16, t 17, t 18, t 19, t 20, t 21, t 22, t 23, t 24, t 25, t 26, t 27, t 28, t 29, t 30, t 31, t 32, t 33, t 34, t 35, t 36, t 37, t 38, t 39, t 40, t 41, t 42, t 43, t 44, t 45, t 46, t 47, t 48, t 49, t 50, t 51, t 52, t 53, t 54, t 55, t 56, t 57, t 58, t 59, t 60, t 61, t 62, t 63, t 64, t 65, t 66, t 67, t 68, t 69, t 70, t 71, t 72, t 73, t 74, t 75, t 76, t 77, t 78, t 79, t 80, t 81, t 82, t 83, t 84, t 85, t 86, t 87, t 88, t 89, t 90, t 91, t 92, t 93, t 94, t 95, r 96, r 97, r 98, r 99, r 100, r 101, r 102, r 103, r 104, r 105, r 106, r 107, r 108, r 109, r 110, r 111, r 112, r 113, r 114, r 115, r 116, r 117, r 118, r 119, r 120, r 121, r 122, r 123, r 124, r 125, r 126, x 0, x 1, x 2, x 3, x 4, x 5, x 6, x 7, x 8, x 9, x 10, x 11, x 12, x 13, x 14, x 15, x 16, x 17, x 18, x 19, x 20, x 21, x 22, .int .i64 y1, x 24, x 25, x 26, x 27, x 28, r 156, r 157, undef], []⟩ : Act) v
                    refine wpOp_step rfl (fun K' hK' => ?_)
                    go_simp
                    exact hK' _ _ (hK _ _ (Below.refl _ _) (at_of rfl (rfl)))
                  · obtain ⟨x, rfl⟩ := upd_of (show x 20 = .int .i64 (500 + (10 * y2)) from hd 20 _ (by simp) rfl)
                    obtain ⟨x, rfl⟩ := upd_of (show x 24 = .int .i64 (y1 % 90) from hd 24 _ (by simp) rfl)
                    show wpOp Try.prog _ _ 25 K (⟨#[t 0, .pointer (some ⟨w.heap.size, 0, none⟩), .pointer (some ⟨(w.heap.size + 1), 0, none⟩), .pointer (some ⟨(w.heap.size + 1 + 1), 0, none⟩), t 4, t 5, t 6, .int .i64 (k : Int), .pointer (some ⟨wr.heap.size, 0, none⟩), .int .i64 (1000 + 35 * y0), t 10, t 11, t 12, t 13, t 14, t 15, t 16, t 17, t 18, t 19, t 20, t 21, t 22, t 23, t 24, t 25, t 26, t 27, t 28, t 29, t 30, t 31, t 32, t 33, t 34, t 35, t 36, t 37, t 38, t 39, t 40, t 41, t 42, t 43, t 44, t 45, t 46, t 47, t 48, t 49, t 50, t 51, t 52, t 53, t 54, t 55, t 56, t 57, t 58, t 59, t 60, t 61, t 62, t 63, t 64, t 65, t 66, t 67, t 68, t 69, t 70, t 71, t 72, t 73, t 74, t 75, t 76, t 77, t 78, t 79, t 80, t 81, t 82, t 83, t 84, t 85, t 86, t 87, t 88, t 89, t 90, t 91, t 92, t 93, t 94, t 95, r 96, r 97, r 98, r 99, r 100, r 101, r 102, r 103, r 104, r 105, r 106, r 107, r 108, r 109, r 110, r 111, r 112, r 113, r 114, r 115, r 116, r 117, r 118, r 119, r 120, r 121, r 122, r 123, r 124, r 125, r 126, x 0, x 1, x 2, x 3, x 4, x 5, x 6, x 7, x 8, x 9, x 10, x 11, x 12, x 13, x 14, x 15, x 16, x 17, x 18, x 19, .int .i64 (500 + (10 * y2)), x 21, x 22, x 23, .int .i64 (y1 % 90), x 25, x 26, x 27, x 28, r 156, r 157, undef], []⟩ : Act) v
                    refine wpOp_step rfl (fun K' hK' => ?_)
                    go_simp
                    exact hK' _ _ (hK _ _ (Below.refl _ _) (at_of rfl (rfl)))
                  · obtain ⟨x, rfl⟩ := upd_of (show x 15 = .int .i64 (500 + (10 * y2)) from hd 15 _ (by simp) rfl)
                    obtain ⟨x, rfl⟩ := upd_of (show x 25 = .int .i64 ((500 + (10 * y2)) + (y1 % 90)) from hd 25 _ (by simp) rfl)
                    show wpOp Try.prog _ _ 26 K (⟨#[t 0, .pointer (some ⟨w.heap.size, 0, none⟩), .pointer (some ⟨(w.heap.size + 1), 0, none⟩), .pointer (some ⟨(w.heap.size + 1 + 1), 0, none⟩), t 4, t 5, t 6, .int .i64 (k : Int), .pointer (some ⟨wr.heap.size, 0, none⟩), .int .i64 (1000 + 35 * y0), t 10, t 11, t 12, t 13, t 14, t 15, t 16, t 17, t 18, t 19, t 20, t 21, t 22, t 23, t 24, t 25, t 26, t 27, t 28, t 29, t 30, t 31, t 32, t 33, t 34, t 35, t 36, t 37, t 38, t 39, t 40, t 41, t 42, t 43, t 44, t 45, t 46, t 47, t 48, t 49, t 50, t 51, t 52, t 53, t 54, t 55, t 56, t 57, t 58, t 59, t 60, t 61, t 62, t 63, t 64, t 65, t 66, t 67, t 68, t 69, t 70, t 71, t 72, t 73, t 74, t 75, t 76, t 77, t 78, t 79, t 80, t 81, t 82, t 83, t 84, t 85, t 86, t 87, t 88, t 89, t 90, t 91, t 92, t 93, t 94, t 95, r 96, r 97, r 98, r 99, r 100, r 101, r 102, r 103, r 104, r 105, r 106, r 107, r 108, r 109, r 110, r 111, r 112, r 113, r 114, r 115, r 116, r 117, r 118, r 119, r 120, r 121, r 122, r 123, r 124, r 125, r 126, x 0, x 1, x 2, x 3, x 4, x 5, x 6, x 7, x 8, x 9, x 10, x 11, x 12, x 13, x 14, .int .i64 (500 + (10 * y2)), x 16, x 17, x 18, x 19, x 20, x 21, x 22, x 23, x 24, .int .i64 ((500 + (10 * y2)) + (y1 % 90)), x 26, x 27, x 28, r 156, r 157, undef], []⟩ : Act) v
                    refine wpOp_step rfl (fun K' hK' => ?_)
                    go_simp
                    refine (armSpan_anyT (500 + (10 * y2)) ((500 + (10 * y2)) + (y1 % 90)) v).mono ?_
                    rintro e v' ⟨rfl, hg⟩
                    exact hK' _ _ (hK _ _ hg (at_of rfl (rfl)))
                  · obtain ⟨x, rfl⟩ := upd_of (show x 2 = .int .i64 (1000 + 35 * y0) from hd 2 _ (by simp) rfl)
                    obtain ⟨x, rfl⟩ := upd_of (show x 10 = .int .i64 ((1000 + 35 * y0) + (((1000 + 35 * y0) * y1) / 255)) from hd 10 _ (by simp) rfl)
                    obtain ⟨x, rfl⟩ := upd_of (show x 26 = .agg #[.int .i64 (500 + (10 * y2)), .int .i64 ((500 + (10 * y2)) + (y1 % 90))] from hd 26 _ (by simp) rfl)
                    show wpOp Try.prog _ _ 27 K (⟨#[t 0, .pointer (some ⟨w.heap.size, 0, none⟩), .pointer (some ⟨(w.heap.size + 1), 0, none⟩), .pointer (some ⟨(w.heap.size + 1 + 1), 0, none⟩), t 4, t 5, t 6, .int .i64 (k : Int), .pointer (some ⟨wr.heap.size, 0, none⟩), .int .i64 (1000 + 35 * y0), t 10, t 11, t 12, t 13, t 14, t 15, t 16, t 17, t 18, t 19, t 20, t 21, t 22, t 23, t 24, t 25, t 26, t 27, t 28, t 29, t 30, t 31, t 32, t 33, t 34, t 35, t 36, t 37, t 38, t 39, t 40, t 41, t 42, t 43, t 44, t 45, t 46, t 47, t 48, t 49, t 50, t 51, t 52, t 53, t 54, t 55, t 56, t 57, t 58, t 59, t 60, t 61, t 62, t 63, t 64, t 65, t 66, t 67, t 68, t 69, t 70, t 71, t 72, t 73, t 74, t 75, t 76, t 77, t 78, t 79, t 80, t 81, t 82, t 83, t 84, t 85, t 86, t 87, t 88, t 89, t 90, t 91, t 92, t 93, t 94, t 95, r 96, r 97, r 98, r 99, r 100, r 101, r 102, r 103, r 104, r 105, r 106, r 107, r 108, r 109, r 110, r 111, r 112, r 113, r 114, r 115, r 116, r 117, r 118, r 119, r 120, r 121, r 122, r 123, r 124, r 125, r 126, x 0, x 1, .int .i64 (1000 + 35 * y0), x 3, x 4, x 5, x 6, x 7, x 8, x 9, .int .i64 ((1000 + 35 * y0) + (((1000 + 35 * y0) * y1) / 255)), x 11, x 12, x 13, x 14, x 15, x 16, x 17, x 18, x 19, x 20, x 21, x 22, x 23, x 24, x 25, .agg #[.int .i64 (500 + (10 * y2)), .int .i64 ((500 + (10 * y2)) + (y1 % 90))], x 27, x 28, r 156, r 157, undef], []⟩ : Act) v
                    refine wpOp_step rfl (fun K' hK' => ?_)
                    go_simp
                    exact hK' _ _ (hK _ _ (Below.refl _ _) (at_of rfl (rfl)))
                  · obtain ⟨x, rfl⟩ := upd_of (show x 27 = .agg #[.int .i64 (1000 + 35 * y0), .int .i64 ((1000 + 35 * y0) + (((1000 + 35 * y0) * y1) / 255)), .int .i64 (500 + (10 * y2)), .int .i64 ((500 + (10 * y2)) + (y1 % 90))] from hd 27 _ (by simp) rfl)
                    show wpOp Try.prog _ _ 28 K (⟨#[t 0, .pointer (some ⟨w.heap.size, 0, none⟩), .pointer (some ⟨(w.heap.size + 1), 0, none⟩), .pointer (some ⟨(w.heap.size + 1 + 1), 0, none⟩), t 4, t 5, t 6, .int .i64 (k : Int), .pointer (some ⟨wr.heap.size, 0, none⟩), .int .i64 (1000 + 35 * y0), t 10, t 11, t 12, t 13, t 14, t 15, t 16, t 17, t 18, t 19, t 20, t 21, t 22, t 23, t 24, t 25, t 26, t 27, t 28, t 29, t 30, t 31, t 32, t 33, t 34, t 35, t 36, t 37, t 38, t 39, t 40, t 41, t 42, t 43, t 44, t 45, t 46, t 47, t 48, t 49, t 50, t 51, t 52, t 53, t 54, t 55, t 56, t 57, t 58, t 59, t 60, t 61, t 62, t 63, t 64, t 65, t 66, t 67, t 68, t 69, t 70, t 71, t 72, t 73, t 74, t 75, t 76, t 77, t 78, t 79, t 80, t 81, t 82, t 83, t 84, t 85, t 86, t 87, t 88, t 89, t 90, t 91, t 92, t 93, t 94, t 95, r 96, r 97, r 98, r 99, r 100, r 101, r 102, r 103, r 104, r 105, r 106, r 107, r 108, r 109, r 110, r 111, r 112, r 113, r 114, r 115, r 116, r 117, r 118, r 119, r 120, r 121, r 122, r 123, r 124, r 125, r 126, x 0, x 1, x 2, x 3, x 4, x 5, x 6, x 7, x 8, x 9, x 10, x 11, x 12, x 13, x 14, x 15, x 16, x 17, x 18, x 19, x 20, x 21, x 22, x 23, x 24, x 25, x 26, .agg #[.int .i64 (1000 + 35 * y0), .int .i64 ((1000 + 35 * y0) + (((1000 + 35 * y0) * y1) / 255)), .int .i64 (500 + (10 * y2)), .int .i64 ((500 + (10 * y2)) + (y1 % 90))], x 28, r 156, r 157, undef], []⟩ : Act) v
                    refine wpOp_step rfl (fun K' hK' => ?_)
                    go_simp
                    have hg := Gr.al v (.cells (List.toArray [.int .i64 (1000 + 35 * y0), .int .i64 ((1000 + 35 * y0) + (((1000 + 35 * y0) * y1) / 255)), .int .i64 (500 + (10 * y2)), .int .i64 ((500 + (10 * y2)) + (y1 % 90))]) 176)
                    exact hK' _ _ (hK _ _ hg (at_of rfl (⟨v.heap.size, rfl, gv.size, Own.new v [.int .i64 (1000 + 35 * y0), .int .i64 ((1000 + 35 * y0) + (((1000 + 35 * y0) * y1) / 255)), .int .i64 (500 + (10 * y2)), .int .i64 ((500 + (10 * y2)) + (y1 % 90))] 176 v.heap.size rfl⟩)))
                case fin19 =>
                  rintro x v gv hd
                  obtain ⟨x, rfl⟩ := upd_of (show x 1 = pv2 from hd 1 _ (by omega) rfl)
                  obtain ⟨b6, e28, hb6, ow6⟩ := hd 28 _ (by omega) rfl
                  obtain ⟨x, rfl⟩ := upd_of (show x 28 = .slice (some ⟨b6, 0, none⟩) 1 1 from e28)
                  clear hd
                  show wpList Try.prog _ _ (List.drop 29 _) (⟨#[t 0, .pointer (some ⟨w.heap.size, 0, none⟩), .pointer (some ⟨(w.heap.size + 1), 0, none⟩), .pointer (some ⟨(w.heap.size + 1 + 1), 0, none⟩), t 4, t 5, t 6, .int .i64 (k : Int), .pointer (some ⟨wr.heap.size, 0, none⟩), .int .i64 (1000 + 35 * y0), t 10, t 11, t 12, t 13, t 14, t 15, t 16, t 17, t 18, t 19, t 20, t 21, t 22, t 23, t 24, t 25, t 26, t 27, t 28, t 29, t 30, t 31, t 32, t 33, t 34, t 35, t 36, t 37, t 38, t 39, t 40, t 41, t 42, t 43, t 44, t 45, t 46, t 47, t 48, t 49, t 50, t 51, t 52, t 53, t 54, t 55, t 56, t 57, t 58, t 59, t 60, t 61, t 62, t 63, t 64, t 65, t 66, t 67, t 68, t 69, t 70, t 71, t 72, t 73, t 74, t 75, t 76, t 77, t 78, t 79, t 80, t 81, t 82, t 83, t 84, t 85, t 86, t 87, t 88, t 89, t 90, t 91, t 92, t 93, t 94, t 95, r 96, r 97, r 98, r 99, r 100, r 101, r 102, r 103, r 104, r 105, r 106, r 107, r 108, r 109, r 110, r 111, r 112, r 113, r 114, r 115, r 116, r 117, r 118, r 119, r 120, r 121, r 122, r 123, r 124, r 125, r 126, x 0, pv2, x 2, x 3, x 4, x 5, x 6, x 7, x 8, x 9, x 10, x 11, x 12, x 13, x 14, x 15, x 16, x 17, x 18, x 19, x 20, x 21, x 22, x 23, x 24, x 25, x 26, x 27, .slice (some ⟨b6, 0, none⟩) 1 1, r 156, r 157, undef], []⟩ : Act) v
                  simp only [List.drop_succ_cons, List.drop_zero]
                  clear w0 w1 w2 w3 w4 w5 w6 w7 w8 w9
                  have gA := gn.tr gv
                  have hoA := owns_keep hown gA
                  have hPA := owns_keep hPo gA
                  have gA0 := gA.size
                  have k1 : k + 1 ≤ maxLen := by unfold maxLen; omega
                  have k2 : (k + 1) * 32 ≤ 140737488355328 := by omega
                  have hne4 : ∀ r, pv2.ownBlock = some r → H1 ≤ r ∧ r < wr.heap.size := (fun r hr => by have := hown.lt r hr; omega)
                  have HNE := Lib.hid hne4
                  clear hne4
                  have hH4 : H1 ≤ v.heap.size := by omega
                  go_wp2_with (at_builtin; refine wpList_append_own _ rfl _ _ 122 rfl H1 176 jf _ 4 32 Try.underlying122 hjf hfz0 hfz1 hfz2 rfl (by decide) _ _ _ rfl hoA ⟨b6, 0, none⟩ 1 1 ([1000 + 35 * y0, (1000 + 35 * y0) + (((1000 + 35 * y0) * y1) / 255), 500 + (10 * y2), (500 + (10 * y2)) + (y1 % 90)].map (fun n => Value.int .i64 n)) rfl rfl ow6.news (ints_one _) k1 k2 hH4 ?_; intro v' w6 hown4 hgr4 _; obtain ⟨a4, c4, rfl⟩ := owns_val hown4; have os4 := (os.keep gA).grownRow hgr4 (fun r hr => by have := HNE.out r hr; omega); have gY := (gg.tr gA).grown' hoA (by omega) hgr4; have hx4 := (hx.keep gA).grown hgr4 (fun r hr => by have := HNE.out r hr; omega); have or4 := (or.keep gA).grownRow hgr4 (fun r hr => by have := HNE.out r hr; omega); have hP4 := hPA.kept hgr4 (by (cases hpo : pv.ownBlock with | none => exact .inl rfl | some r => exact .inr (fun e => by have h1 := HP2.out r hpo; have h2 := HNE.out r e.symm; omega))); have hH6 := Nat.le_trans hH4 hgr4.size; obtain ⟨t0, t1⟩ := os4.1.c2; have z1 := os4.2 1)
                  go_roundw
                  case rel =>
                    refine Lib.hid ⟨k + 1, _, by omega, by go_num, gY.setCell (show w.heap.size ≤ w.heap.size + 1 + 1 by omega) _, by simpa using hH6, hx4.other (by omega), or4.other (by omega), os4.set (i := 1) (by simp), owns_other hP4 (by omega), ?_⟩
                    rw [List.take_add_one, HPK.out, Option.toList_some, flat_snoc]
                    exact owns_other hown4 (by omega)
                  case measure => simp [intOf]; omega
          · obtain rfl : k = nfW F.length := by omega
            have hle : nfW F.length = (storeWF F).length := (storeWF_len F).symm
            rw [List.take_of_length_le (by omega)] at hown
            rw [hle] at hown
            rw [HLE.out] at hPo
            obtain ⟨a1, c1, hv1, r1, n1'⟩ := owns_row_new (enc := encP) (l := storeWP P) (fun _ => rfl) (by have := HLE.out; omega) hPo
            obtain ⟨a2, c2, hv2, r2, n2'⟩ := owns_row_new (enc := encF) (l := storeWF F) (fun _ => rfl) (by omega) hown
            subst hv1
            subst hv2
            have R1 := Lib.hid r1
            have R2 := Lib.hid r2
            have N1 := Lib.hid n1'
            have N2 := Lib.hid (n2'.le (show w.heap.size + 1 + 1 + 1 ≤ H1 by omega))
            have HLE2 := Lib.hid hle
            clear r1 r2 n1' n2' hPo hown hle
            have hsz : w.heap.size + 1 + 1 < wr.heap.size := os.1.1
            go_upto_region 13 with fail
            go_cut [108] from 96 to 107 (fun s23 wx => s23 = .bool false ∧ wr = wx)
            case first =>
              have q0 := hx.2 1 _ rfl
              have d1 : ((nfW F.length : Int) == 0) = false := by rw [beq_eq_false_iff_ne]; omega
              by_cases hl : nfW F.length < F.length
              · have d2 : decide (nfW F.length < F.length) = true := by simpa using hl
                have h5 : nfW F.length = 3 := by unfold nfW at hl ⊢; split at hl <;> (try split at hl) <;> (try split) <;> omega
                have d3 : decide ((nfW F.length : Int) < 3) = false := by simp; omega
                clear h5
                go_wp2_with fail
                go_meet
                exact ⟨rfl, rfl⟩
              · have d2 : decide (nfW F.length < F.length) = false := by simpa using hl
                go_wp2_with fail
                go_meet
                exact ⟨rfl, rfl⟩
            case rest =>
              obtain ⟨rfl, rfl⟩ := hcut
              obtain ⟨s0, s1⟩ := os.1.c2
              obtain ⟨u0, u1⟩ := or.1.c2
              have z0 := or.2 0
              have z1 := or.2 1
              go_wp2
              refine bodyPost_ret (v := .agg #[.slice a1 (storeWP P).length c1, .slice a2 (storeWF F).length c2]) (by simp [results, Try.results60, go_sem, u0, u1]) rfl ⟨a1, c1, a2, c2, rfl, (gg.setCell (by simp) _).setCell (by simp) _, ?_, ?_, N1.out.le (by omega), N2.out.le (by omega)⟩
              · exact (R1.out.other N1.out (by omega)).other N1.out (by omega)
              · exact (R2.out.other N2.out (by omega)).other N2.out (by omega)

end Go.Proofs.Ytcdilmagcdbogaa
