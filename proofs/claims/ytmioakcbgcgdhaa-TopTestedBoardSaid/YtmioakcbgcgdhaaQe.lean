/- armMake: what it makes, and what stays while it works. The board that armMake makes of armStore's store has no error; its caliper. How strong a board of a Ware is at most. -/
import Derived.Test.YtmioakcbgcgdhaaE1
import Derived.Test.YtmioakcbgcgdhaaQp
import Derived.Test.YtmioakcbgcgdhaaQr
import Derived.Deep.AppendLies
import Derived.Test.YtmioakcbgcgdhaaB11
import Derived.Test.YtmioakcbgcgdhaaB10
namespace Go.Proofs.Ytmioakcbgcgdhaa
set_option linter.unusedVariables false
set_option linter.unusedSimpArgs false
open Go.RowKit

def kindW (P : List V6) (i : Nat) : Int := (paperW i (wareP P i)).kind

def kindsW (P : List V6) (c : Int) : Nat → List Int
  | 0 => []
  | n + 1 => kindsW P c n ++ (if kindW P n = c then [(n : Int)] else [])

theorem kindsW_len (P : List V6) (c : Int) : ∀ n, (kindsW P c n).length ≤ n
  | 0 => by simp [kindsW]
  | n + 1 => by
    have := kindsW_len P c n
    unfold kindsW
    split <;> simp <;> omega

theorem kindsW_mono (P : List V6) (c : Int) : ∀ n m, n ≤ m → (kindsW P c n).length ≤ (kindsW P c m).length
  | n, 0, h => by
    have : n = 0 := by omega
    subst this
    exact Nat.le_refl _
  | n, m + 1, h => by
    by_cases e : n = m + 1
    · subst e; exact Nat.le_refl _
    · have := kindsW_mono P c n m (by omega)
      show _ ≤ (kindsW P c m ++ _).length
      rw [List.length_append]
      omega

theorem kindsW_pos1 (P : List V6) {n : Nat} (h : 2 ≤ n) : 0 < (kindsW P 1 n).length := by
  have h1 := kindsW_mono P 1 1 n (by omega)
  have h2 : (kindsW P 1 1).length = 1 := by simp [kindsW, kindW, paperW]
  omega

theorem kindsW_pos2 (P : List V6) {n : Nat} (h : 2 ≤ n) : 0 < (kindsW P 2 n).length := by
  have h1 := kindsW_mono P 2 2 n h
  have h2 : (kindsW P 2 2).length = 1 := by simp [kindsW, kindW, paperW]
  omega

/-- All of a kind's numbers are of this kind. -/
theorem kindsW_mem {P : List V6} {c : Int} : ∀ {n : Nat} {x : Int}, x ∈ kindsW P c n → ∃ i : Nat, x = (i : Int) ∧ i < n ∧ kindW P i = c
  | 0, x, h => by simp [kindsW] at h
  | n + 1, x, h => by
    unfold kindsW at h
    rcases List.mem_append.1 h with h | h
    · obtain ⟨i, e, hi, hk⟩ := kindsW_mem h
      exact ⟨i, e, by omega, hk⟩
    · split at h
      · rename_i hk
        simp at h
        exact ⟨n, h, by omega, hk⟩
      · simp at h

theorem kindW_12 {P : List V6} (hP : ∀ v ∈ P, B6 v) {i : Nat} (hi : i < 5) : kindW P i = 1 ∨ kindW P i = 2 := by
  obtain ⟨⟨h0, h1⟩, _⟩ := wareP_B hP hi
  unfold kindW paperW
  simp only
  split <;> omega

def flW (Y : List Int) : Nat := 1 + (byteL Y 0).toNat % 2

theorem flW_12 (Y : List Int) : flW Y = 1 ∨ flW Y = 2 := by unfold flW; omega

def pickW (L : List Int) (n : Nat) : Int := L.getD (n % L.length) 0

def kindRow (P : List V6) (i : Nat) : List Int := kindsW P (if i % 2 = 0 then 1 else 2) (npW P.length)

def makeWP (P : List V6) (Y : List Int) : List Int := (List.range (2 * flW Y + 1)).map fun i => pickW (kindRow P i) (byteL Y (i + 1)).toNat

def makeWF (F : List V3) (Y : List Int) : List Int := (List.range (flW Y)).map fun j => (((byteL Y (2 * j + 1 + 6)).toNat % nfW F.length : Nat) : Int)

theorem makeWP_len (P : List V6) (Y : List Int) : (makeWP P Y).length = 2 * flW Y + 1 := by simp [makeWP]

theorem makeWF_len (F : List V3) (Y : List Int) : (makeWF F Y).length = flW Y := by simp [makeWF]

theorem makeWP_at {P : List V6} {Y : List Int} {k : Nat} (h : k < 2 * flW Y + 1) : (makeWP P Y)[k]? = some (pickW (kindRow P k) (byteL Y (k + 1)).toNat) := by
  unfold makeWP
  rw [List.getElem?_map, List.getElem?_range h]
  rfl

theorem makeWF_at {F : List V3} {Y : List Int} {k : Nat} (h : k < flW Y) : (makeWF F Y)[k]? = some (((byteL Y (2 * k + 1 + 6)).toNat % nfW F.length : Nat) : Int) := by
  unfold makeWF
  rw [List.getElem?_map, List.getElem?_range h]
  rfl

/-- What stays while armMake works. -/
structure MkS (w : World) (vs : List Value) (D : Nat) (sa sg : Option Addr) (SP : List Paper) (SF : List Flute) (sc gc : Nat) (v : World) : Prop where
  gr : Gr w v
  hx : Box v w.heap.size vs
  or : Own v (w.heap.size + 1) [.slice none 0 0, .slice none 0 0]
  b3 : Box v D [.slice sa SP.length sc, .slice sg SF.length gc]
  rp : PRow v sa SP
  rf : FRow v sg SF

/-- The places beside it. -/
structure MkP (w : World) (D : Nat) (sa sg : Option Addr) : Prop where
  hD : w.heap.size + 1 < D
  ha : ∀ b off, sa = some ⟨b, off, none⟩ → b < D
  hg : ∀ b off, sg = some ⟨b, off, none⟩ → b < D

variable {w : World} {vs : List Value} {D : Nat} {sa sg : Option Addr} {SP : List Paper} {SF : List Flute} {sc gc : Nat} {v v' : World}

theorem MkS.keep (h : MkS w vs D sa sg SP SF sc gc v) (g : Gr v v') : MkS w vs D sa sg SP SF sc gc v' :=
  ⟨h.gr.tr g, h.hx.keep g, h.or.keep g, h.b3.keep g, h.rp.grow g, h.rf.grow g⟩

theorem MkS.set (h : MkS w vs D sa sg SP SF sc gc v) (p : MkP w D sa sg) {c : Nat} (hc : D < c) (i : Nat) (u : Value) : MkS w vs D sa sg SP SF sc gc (v.setCell ⟨c, i, none⟩ u) := by
  have := p.hD
  exact ⟨h.gr.setCell (show w.heap.size ≤ c by omega) u, h.hx.other (by omega), h.or.other (by omega), h.b3.other (by omega), h.rp.setAt (fun b off e => by have := p.ha b off e; omega) i u, h.rf.setAt (fun b off e => by have := p.hg b off e; omega) i u⟩

theorem MkS.grown (h : MkS w vs D sa sg SP SF sc gc v) (p : MkP w D sa sg) {row : Option Nat} (hg : v.grownBy v' row) (hr : ∀ r, row = some r → D < r) : MkS w vs D sa sg SP SF sc gc v' := by
  have := p.hD
  exact ⟨Below.grown h.gr hg h.gr.size (fun k hk => by have := hr k hk; omega), h.hx.grown hg (fun r e => by have := hr r e; omega), h.or.grownRow hg (fun r e => by have := hr r e; omega), h.b3.grown hg (fun r e => by have := hr r e; omega),
    h.rp.grown hg (fun r b off e e' => by have := hr r e; have := p.ha b off e'; omega), h.rf.grown hg (fun r b off e e' => by have := hr r e; have := p.hg b off e'; omega)⟩

end Go.Proofs.Ytmioakcbgcgdhaa

namespace Go.Proofs.Ytmioakcbgcgdhaa
set_option linter.unusedVariables false
set_option linter.unusedSimpArgs false
open Go.RowKit

theorem good_paperW {k : Nat} {v : V6} (hv : B6 v) (hk : k < 5) : goodP (paperW k v) = true := by
  obtain ⟨⟨a0, a1⟩, ⟨b0, b1⟩, ⟨c0, c1⟩, ⟨d0, d1⟩, ⟨e0, e1⟩, ⟨f0, f1⟩⟩ := hv
  simp only [goodP, paperW, inB, in1, okSpan, List.all_cons, List.all_nil, Bool.and_true, Bool.and_eq_true, Bool.or_eq_true, decide_eq_true_eq, beq_iff_eq]
  refine ⟨⟨⟨⟨⟨?_, ?_⟩, ?_⟩, ?_⟩, ?_⟩, ?_⟩ <;> (try split) <;> first | omega | exact ⟨by omega, decide_eq_true (by omega)⟩

theorem good_fluteW {v : V3} (hv : B3 v) : goodF (fluteW v) = true := by
  obtain ⟨⟨a0, a1⟩, ⟨b0, b1⟩, ⟨c0, c1⟩⟩ := hv
  have p0 : 0 ≤ (1000 + 35 * v.a) * v.b := Int.mul_nonneg (by omega) b0
  have p1 : (1000 + 35 * v.a) * v.b ≤ (1000 + 35 * v.a) * 255 := Int.mul_le_mul_of_nonneg_left b1 (by omega)
  simp only [goodF, fluteW, inB, in1, okSpan, List.all_cons, List.all_nil, Bool.and_true, Bool.and_eq_true, decide_eq_true_eq]
  generalize (1000 + 35 * v.a) * v.b = p at *
  have q0 : 0 ≤ p / 255 := by omega
  have q1 : p / 255 ≤ 1000 + 35 * v.a := by omega
  refine ⟨⟨?_, ?_⟩, ?_⟩ <;> first | omega | exact ⟨by omega, decide_eq_true (by omega)⟩

theorem storeWP_good {P : List V6} (hP : ∀ v ∈ P, B6 v) : (storeWP P).all goodP = true := by
  rw [List.all_eq_true]
  intro p hp
  obtain ⟨i, hi, rfl⟩ := List.mem_map.1 hp
  have := (npW_bd P.length).2
  have hi' := List.mem_range.1 hi
  exact good_paperW (wareP_B hP (by omega)) (by omega)

theorem storeWF_good {F : List V3} (hF : ∀ v ∈ F, B3 v) : (storeWF F).all goodF = true := by
  rw [List.all_eq_true]
  intro p hp
  obtain ⟨i, hi, rfl⟩ := List.mem_map.1 hp
  exact good_fluteW (wareF_B hF i)

theorem kindRow_pos (P : List V6) (i : Nat) : 0 < (kindRow P i).length := by
  have := (npW_bd P.length).1
  unfold kindRow
  split
  · exact kindsW_pos1 P this
  · exact kindsW_pos2 P this

theorem pick_mem {L : List Int} (h : 0 < L.length) (n : Nat) : pickW L n ∈ L := by
  have hlt := Nat.mod_lt n h
  unfold pickW
  rw [List.getD_eq_getElem?_getD, List.getElem?_eq_getElem hlt]
  exact List.getElem_mem hlt

/-- What lies at a place of the board. -/
theorem makeWP_kind {P : List V6} {Y : List Int} {k : Nat} (h : k < 2 * flW Y + 1) : ∃ i : Nat, (makeWP P Y)[k]? = some (i : Int) ∧ i < npW P.length ∧ kindW P i = kindL k := by
  have hm := pick_mem (kindRow_pos P k) (byteL Y (k + 1)).toNat
  obtain ⟨i, e, hi, hk⟩ := kindsW_mem hm
  refine ⟨i, by rw [makeWP_at h, e], hi, ?_⟩
  rw [hk]
  unfold kindL
  by_cases h2 : k % 2 = 0
  · rw [if_pos h2, if_pos (by omega)]
  · rw [if_neg h2, if_neg (by omega)]

theorem ware_made {P : List V6} {F : List V3} (Y : List Int) (hP : ∀ v ∈ P, B6 v) (hF : ∀ v ∈ F, B3 v) : madeL (storeWP P) (storeWF F) (makeWP P Y) (makeWF F Y) = 0 := by
  obtain ⟨np2, np5⟩ := npW_bd P.length
  obtain ⟨nf1, nf3⟩ := nfW_bd F.length
  have lP := storeWP_len P
  have lF := storeWF_len F
  have mP := makeWP_len P Y
  have mF := makeWF_len F Y
  have hf := flW_12 Y
  have hc : checkL (storeWP P) (storeWF F) = 0 := by
    unfold checkL
    rw [storeWP_good hP, storeWF_good hF, if_neg (by omega), if_neg (by omega)]
    rfl
  have h1 : formedL (makeWP P Y) (makeWF F Y) = true := by
    unfold formedL
    rw [mP, mF]
    simp [inB, in1]
    omega
  have h2 : numberedL (makeWP P Y) (makeWF F Y) (storeWP P).length (storeWF F).length = true := by
    unfold numberedL inB
    rw [Bool.and_eq_true, List.all_eq_true, List.all_eq_true]
    constructor
    · intro x hx
      obtain ⟨k, hk⟩ := List.getElem?_of_mem hx
      have hlt := (List.getElem?_eq_some_iff.1 hk).1
      obtain ⟨i, e, hi, _⟩ := makeWP_kind (P := P) (Y := Y) (show k < 2 * flW Y + 1 by omega)
      rw [e] at hk
      cases hk
      simp [in1]
      omega
    · intro x hx
      obtain ⟨k, hk⟩ := List.getElem?_of_mem hx
      have hlt := (List.getElem?_eq_some_iff.1 hk).1
      have e := makeWF_at (F := F) (Y := Y) (show k < flW Y by omega)
      rw [e] at hk
      cases hk
      have := Nat.mod_lt (byteL Y (2 * k + 1 + 6)).toNat (show 0 < nfW F.length by omega)
      simp only [in1, Bool.and_eq_true, decide_eq_true_eq]
      omega
  have h3 : kindsOk (storeWP P) (makeWP P Y) = true := by
    refine kindsOk_true fun k hk => ?_
    obtain ⟨i, e, hi, hkk⟩ := makeWP_kind (P := P) (Y := Y) (show k < 2 * flW Y + 1 by omega)
    unfold kindOk
    rw [e]
    simp only [Int.toNat_natCast]
    rw [storeWP_at hi]
    simp only [beq_iff_eq]
    exact hkk
  unfold madeL
  rw [if_neg (by simp [hc]), if_neg (by rw [h1]; decide), if_neg (by rw [h2]; decide), if_neg (by rw [h3]; decide)]

theorem thickP_mono {ps : List Paper} {fs : List Flute} {mp mf : List Int} (F : Fine ps fs mp mf) : ∀ k, k ≤ mp.length → thickP false ps mp k ≤ thickP true ps mp k
  | 0, _ => by simp [thickP]
  | k + 1, hk => by
    have h := thickP_mono F k (by omega)
    obtain ⟨n, p, hn, hp, _⟩ := F.pap k (by omega)
    obtain ⟨_, _, _, h3, h4, h5, _⟩ := goodP_iff (F.good n p hp)
    have e : paperN ps (mp.getD k 0) = p := by simp [hn, paperN_eq hp]
    unfold thickP
    rw [e]
    unfold endOf
    split <;> simp <;> omega

theorem thickF_mono {ps : List Paper} {fs : List Flute} {mp mf : List Int} (F : Fine ps fs mp mf) {s t : Int} (hs : s ≤ t) : ∀ k, k ≤ mf.length → thickF false fs mf s k ≤ thickF true fs mf t k
  | 0, _ => by simpa [thickF] using hs
  | k + 1, hk => by
    have h := thickF_mono F hs k (by omega)
    obtain ⟨_, _, _, _, g1, g2, g3⟩ := flute_good F (show k < mf.length by omega)
    unfold thickF endOf
    simp
    omega

theorem thickF_pos {ps : List Paper} {fs : List Flute} {mp mf : List Int} (F : Fine ps fs mp mf) {s : Int} (hs : 0 ≤ s) : ∀ k : Nat, k ≤ mf.length → (k : Int) ≤ thickF false fs mf s k
  | 0, _ => by simpa [thickF] using hs
  | k + 1, hk => by
    have h := thickF_pos F hs k (by omega)
    obtain ⟨_, _, _, _, g1, g2, g3⟩ := flute_good F (show k < mf.length by omega)
    unfold thickF endOf
    simp
    omega

theorem thick_span {ps : List Paper} {fs : List Flute} {mp mf : List Int} (F : Fine ps fs mp mf) : 1 ≤ thickL false ps fs mp mf ∧ thickL false ps fs mp mf ≤ thickL true ps fs mp mf ∧ thickL true ps fs mp mf ≤ 1000000 := by
  obtain ⟨a0, a1⟩ := thickP_bd false F mp.length (Nat.le_refl _)
  obtain ⟨b0, b1⟩ := thickP_bd true F mp.length (Nat.le_refl _)
  have hm := F.mpl
  have h1 := F.f1
  have h2 := F.f2
  have p := thickF_pos F a0 mf.length (Nat.le_refl _)
  have m := thickF_mono F (thickP_mono F mp.length (Nat.le_refl _)) mf.length (Nat.le_refl _)
  obtain ⟨c0, c1⟩ := thickF_bd true F (s := thickP true ps mp mp.length) ⟨b0, by omega⟩ mf.length (Nat.le_refl _)
  unfold thickL
  omega

end Go.Proofs.Ytmioakcbgcgdhaa

namespace Go.Proofs.Ytmioakcbgcgdhaa
set_option linter.unusedVariables false
set_option linter.unusedSimpArgs false
open Go.RowKit

theorem take_two {ps : List Paper} {fs : List Flute} {mp mf : List Int} (F : Fine ps fs mp mf) {k : Nat} (hk : k < mp.length) : takeL fs mf k ≤ 2 * partsL fs mf := by
  obtain ⟨h1, h2⟩ := parts_bd F
  unfold takeL
  cases hk1 : (kindL (k : Int) == 1) with
  | true => simp only [if_true]; omega
  | false =>
    obtain ⟨o1, o2⟩ := kindL_odd hk1
    have hm := F.mpl
    obtain ⟨g1, g2, g3, g4, _⟩ := flute_good F (show k / 2 < mf.length by omega)
    simp only [Bool.false_eq_true, if_false]
    have q0 : 0 ≤ partsL fs mf / (fluteAt fs mf (k / 2)).pitch := Int.ediv_nonneg (by omega) (by omega)
    have q1 := Int.mul_le_mul_of_nonneg_left g4 q0
    have q2 := Int.ediv_mul_le (partsL fs mf) (show (fluteAt fs mf (k / 2)).pitch ≠ 0 by omega)
    have q3 : partsL fs mf / (fluteAt fs mf (k / 2)).pitch * (2 * (fluteAt fs mf (k / 2)).pitch) = 2 * (partsL fs mf / (fluteAt fs mf (k / 2)).pitch * (fluteAt fs mf (k / 2)).pitch) := by
      rw [Int.mul_left_comm]
    omega

/-- What the first k papers of a store have together of the first m places of a board. -/
def sumUsed (fs : List Flute) (mp mf : List Int) (m : Nat) : Nat → Int
  | 0 => 0
  | k + 1 => sumUsed fs mp mf m k + usedTo fs mp mf m k

theorem sumUsed_zero (fs : List Flute) (mp mf : List Int) : ∀ k, sumUsed fs mp mf 0 k = 0
  | 0 => rfl
  | k + 1 => by
    have := sumUsed_zero fs mp mf k
    simp [sumUsed, usedTo, this]

theorem sumUsed_succ {fs : List Flute} (mp : List Int) {mf : List Int} {m : Nat} (ht : 0 ≤ takeL fs mf m) : ∀ k : Nat, sumUsed fs mp mf (m + 1) k ≤ sumUsed fs mp mf m k + takeL fs mf m ∧ ((k : Int) ≤ mp.getD m 0 → sumUsed fs mp mf (m + 1) k ≤ sumUsed fs mp mf m k)
  | 0 => by
    simp only [sumUsed]
    exact ⟨by omega, fun _ => by omega⟩
  | k + 1 => by
    obtain ⟨h1, h2⟩ := sumUsed_succ mp ht k
    simp only [sumUsed]
    have e : usedTo fs mp mf (m + 1) (k : Int) = if (k : Int) = mp.getD m 0 then usedTo fs mp mf m (k : Int) + takeL fs mf m else usedTo fs mp mf m (k : Int) := rfl
    rw [e]
    by_cases hk : (k : Int) = mp.getD m 0
    · rw [if_pos hk]
      have h3 := h2 (by omega)
      exact ⟨by omega, fun h5 => by omega⟩
    · rw [if_neg hk]
      exact ⟨by omega, fun h5 => by have := h2 (by omega); omega⟩

theorem sumUsed_bd {ps : List Paper} {fs : List Flute} {mp mf : List Int} (F : Fine ps fs mp mf) (k : Nat) : ∀ m : Nat, m ≤ mp.length → sumUsed fs mp mf m k ≤ (m : Int) * (2 * partsL fs mf)
  | 0, _ => by rw [sumUsed_zero]; simp
  | m + 1, h => by
    have h1 := sumUsed_bd F k m (by omega)
    obtain ⟨t0, _⟩ := take_bd F (show m < mp.length by omega)
    have t1 := take_two F (show m < mp.length by omega)
    have h2 := (sumUsed_succ (fs := fs) (mf := mf) (m := m) mp (by omega) k).1
    rw [show ((m + 1 : Nat) : Int) = (m : Int) + 1 by omega, Int.add_mul, Int.one_mul]
    omega

theorem totalTo_le {ps : List Paper} {fs : List Flute} {mp mf : List Int} (F : Fine ps fs mp mf) {of : Paper → Int} {S : Int} (hS : ∀ (n : Nat) (p : Paper), ps[n]? = some p → of p ≤ S) : ∀ k, k ≤ ps.length → totalTo ps fs mp mf of k ≤ S * sumUsed fs mp mf mp.length k
  | 0, _ => by simp [totalTo, sumUsed]
  | k + 1, hk => by
    have h1 := totalTo_le F hS k (by omega)
    obtain ⟨p, hp⟩ := get_of_lt (show k < ps.length by omega)
    obtain ⟨u0, _⟩ := used_bd F (k : Int)
    have h2 := Int.mul_le_mul_of_nonneg_right (hS k p hp) u0
    unfold totalTo sumUsed
    rw [paperN_eq hp, Int.mul_add]
    exact Int.add_le_add h1 h2

theorem strong_le {ps : List Paper} {fs : List Flute} {mp mf : List Int} (F : Fine ps fs mp mf) {S : Int} (h0 : 0 ≤ S) (hS : ∀ (n : Nat) (p : Paper), ps[n]? = some p → p.strong ≤ S) : 0 ≤ strongL ps fs mp mf ∧ strongL ps fs mp mf ≤ 10 * S := by
  obtain ⟨p0, p1⟩ := parts_bd F
  obtain ⟨t0, t1⟩ := totals_bd F strongOf_bd
  have h1 : totalL ps fs mp mf strongOf ≤ S * sumUsed fs mp mf mp.length ps.length := totalTo_le F hS ps.length (Nat.le_refl _)
  have h2 := sumUsed_bd F ps.length mp.length (Nat.le_refl _)
  have hm := F.mpl
  have hf := F.f2
  have h3 : (mp.length : Int) * (2 * partsL fs mf) ≤ 5 * (2 * partsL fs mf) := Int.mul_le_mul_of_nonneg_right (by omega) (by omega)
  have h4 : S * sumUsed fs mp mf mp.length ps.length ≤ S * (10 * partsL fs mf) := Int.mul_le_mul_of_nonneg_left (by omega) h0
  refine ⟨Int.ediv_nonneg t0 (by omega), Int.ediv_le_of_le_mul (by omega) ?_⟩
  rw [Int.mul_comm 10 S, Int.mul_assoc]
  omega

/-- The strength of a board of a Ware. -/
theorem ware_strong {P : List V6} {F : List V3} (Y : List Int) (hP : ∀ v ∈ P, B6 v) (hF : ∀ v ∈ F, B3 v) : 0 ≤ strongL (storeWP P) (storeWF F) (makeWP P Y) (makeWF F Y) ∧ strongL (storeWP P) (storeWF F) (makeWP P Y) (makeWF F Y) ≤ 25500 := by
  obtain ⟨np2, np5⟩ := npW_bd P.length
  refine strong_le (S := 2550) (fine_of_made (ware_made Y hP hF)) (by decide) fun n p hp => ?_
  have hn : n < npW P.length := by
    have := (List.getElem?_eq_some_iff.1 hp).1
    rwa [storeWP_len] at this
  rw [storeWP_at hn] at hp
  cases hp
  obtain ⟨_, _, _, _, _, h1, h2⟩ := wareP_B hP (show n < 5 by omega)
  show 10 * (wareP P n).f ≤ 2550
  omega

end Go.Proofs.Ytmioakcbgcgdhaa
