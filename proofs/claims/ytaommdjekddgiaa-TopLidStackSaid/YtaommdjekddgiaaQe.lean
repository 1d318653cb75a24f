/- armMake: what it makes, and what stays while it works. The board that armMake makes of armStore's store has no error; its caliper. -/
import Derived.Test.YtaommdjekddgiaaE1
import Derived.Test.YtaommdjekddgiaaQp
import Derived.Test.YtaommdjekddgiaaQr
import Derived.Deep.AppendLies
import Derived.Test.YtaommdjekddgiaaB11
namespace Go.Proofs.Ytaommdjekddgiaa
set_option linter.unusedVariables false
set_option linter.unusedSimpArgs false
open Go.RowKit

def kindW (P : List V6) (i : Nat) : Int := (paperW i (wareP P i)).kind

def kindsW (P : List V6) (c : Int) : Nat → List Int
  | 0 => []
  | n + 1 => kindsW P c n ++ (if kindW P n = c then [(n : Int)] else [])

theorem kindsW_len (P : List V6) (c : Int) : ∀ n, (kindsW P c n).length ≤ n
  | 0 => by simp [kindsW]
  | n + 1 => by
    have := kindsW_len P c n
    unfold kindsW
    split <;> simp <;> omega

theorem kindsW_mono (P : List V6) (c : Int) : ∀ n m, n ≤ m → (kindsW P c n).length ≤ (kindsW P c m).length
  | n, 0, h => by
    have : n = 0 := by omega
    subst this
    exact Nat.le_refl _
  | n, m + 1, h => by
    by_cases e : n = m + 1
    · subst e; exact Nat.le_refl _
    · have := kindsW_mono P c n m (by omega)
      show _ ≤ (kindsW P c m ++ _).length
      rw [List.length_append]
      omega

theorem kindsW_pos1 (P : List V6) {n : Nat} (h : 2 ≤ n) : 0 < (kindsW P 1 n).length := by
  have h1 := kindsW_mono P 1 1 n (by omega)
  have h2 : (kindsW P 1 1).length = 1 := by simp [kindsW, kindW, paperW]
  omega

theorem kindsW_pos2 (P : List V6) {n : Nat} (h : 2 ≤ n) : 0 < (kindsW P 2 n).length := by
  have h1 := kindsW_mono P 2 2 n h
  have h2 : (kindsW P 2 2).length = 1 := by simp [kindsW, kindW, paperW]
  omega

/-- All of a kind's numbers are of this kind. -/
theorem kindsW_mem {P : List V6} {c : Int} : ∀ {n : Nat} {x : Int}, x ∈ kindsW P c n → ∃ i : Nat, x = (i : Int) ∧ i < n ∧ kindW P i = c
  | 0, x, h => by simp [kindsW] at h
  | n + 1, x, h => by
    unfold kindsW at h
    rcases List.mem_append.1 h with h | h
    · obtain ⟨i, e, hi, hk⟩ := kindsW_mem h
      exact ⟨i, e, by omega, hk⟩
    · split at h
      · rename_i hk
        simp at h
        exact ⟨n, h, by omega, hk⟩
      · simp at h

theorem kindW_12 {P : List V6} (hP : ∀ v ∈ P, B6 v) {i : Nat} (hi : i < 5) : kindW P i = 1 ∨ kindW P i = 2 := by
  obtain ⟨⟨h0, h1⟩, _⟩ := wareP_B hP hi
  unfold kindW paperW
  simp only
  split <;> omega

def flW (Y : List Int) : Nat := 1 + (byteL Y 0).toNat % 2

theorem flW_12 (Y : List Int) : flW Y = 1 ∨ flW Y = 2 := by unfold flW; omega

def pickW (L : List Int) (n : Nat) : Int := L.getD (n % L.length) 0

def kindRow (P : List V6) (i : Nat) : List Int := kindsW P (if i % 2 = 0 then 1 else 2) (npW P.length)

def makeWP (P : List V6) (Y : List Int) : List Int := (List.range (2 * flW Y + 1)).map fun i => pickW (kindRow P i) (byteL Y (i + 1)).toNat

def makeWF (F : List V3) (Y : List Int) : List Int := (List.range (flW Y)).map fun j => (((byteL Y (2 * j + 1 + 6)).toNat % nfW F.length : Nat) : Int)

theorem makeWP_len (P : List V6) (Y : List Int) : (makeWP P Y).length = 2 * flW Y + 1 := by simp [makeWP]

theorem makeWF_len (F : List V3) (Y : List Int) : (makeWF F Y).length = flW Y := by simp [makeWF]

theorem makeWP_at {P : List V6} {Y : List Int} {k : Nat} (h : k < 2 * flW Y + 1) : (makeWP P Y)[k]? = some (pickW (kindRow P k) (byteL Y (k + 1)).toNat) := by
  unfold makeWP
  rw [List.getElem?_map, List.getElem?_range h]
  rfl

theorem makeWF_at {F : List V3} {Y : List Int} {k : Nat} (h : k < flW Y) : (makeWF F Y)[k]? = some (((byteL Y (2 * k + 1 + 6)).toNat % nfW F.length : Nat) : Int) := by
  unfold makeWF
  rw [List.getElem?_map, List.getElem?_range h]
  rfl

/-- What stays while armMake works. -/
structure MkS (w : World) (vs : List Value) (D : Nat) (sa sg : Option Addr) (SP : List Paper) (SF : List Flute) (sc gc : Nat) (v : World) : Prop where
  gr : Gr w v
  hx : Box v w.heap.size vs
  or : Own v (w.heap.size + 1) [.slice none 0 0, .slice none 0 0]
  b3 : Box v D [.slice sa SP.length sc, .slice sg SF.length gc]
  rp : PRow v sa SP
  rf : FRow v sg SF

/-- The places beside it. -/
structure MkP (w : World) (D : Nat) (sa sg : Option Addr) : Prop where
  hD : w.heap.size + 1 < D
  ha : ∀ b off, sa = some ⟨b, off, none⟩ → b < D
  hg : ∀ b off, sg = some ⟨b, off, none⟩ → b < D

variable {w : World} {vs : List Value} {D : Nat} {sa sg : Option Addr} {SP : List Paper} {SF : List Flute} {sc gc : Nat} {v v' : World}

theorem MkS.keep (h : MkS w vs D sa sg SP SF sc gc v) (g : Gr v v') : MkS w vs D sa sg SP SF sc gc v' :=
  ⟨h.gr.tr g, h.hx.keep g, h.or.keep g, h.b3.keep g, h.rp.grow g, h.rf.grow g⟩

theorem MkS.set (h : MkS w vs D sa sg SP SF sc gc v) (p : MkP w D sa sg) {c : Nat} (hc : D < c) (i : Nat) (u : Value) : MkS w vs D sa sg SP SF sc gc (v.setCell ⟨c, i, none⟩ u) := by
  have := p.hD
  exact ⟨h.gr.setCell (show w.heap.size ≤ c by omega) u, h.hx.other (by omega), h.or.other (by omega), h.b3.other (by omega), h.rp.setAt (fun b off e => by have := p.ha b off e; omega) i u, h.rf.setAt (fun b off e => by have := p.hg b off e; omega) i u⟩

theorem MkS.grown (h : MkS w vs D sa sg SP SF sc gc v) (p : MkP w D sa sg) {row : Option Nat} (hg : v.grownBy v' row) (hr : ∀ r, row = some r → D < r) : MkS w vs D sa sg SP SF sc gc v' := by
  have := p.hD
  exact ⟨Below.grown h.gr hg h.gr.size (fun k hk => by have := hr k hk; omega), h.hx.grown hg (fun r e => by have := hr r e; omega), h.or.grownRow hg (fun r e => by have := hr r e; omega), h.b3.grown hg (fun r e => by have := hr r e; omega),
    h.rp.grown hg (fun r b off e e' => by have := hr r e; have := p.ha b off e'; omega), h.rf.grown hg (fun r b off e e' => by have := hr r e; have := p.hg b off e'; omega)⟩

end Go.Proofs.Ytaommdjekddgiaa

namespace Go.Proofs.Ytaommdjekddgiaa
set_option linter.unusedVariables false
set_option linter.unusedSimpArgs false
open Go.RowKit

theorem good_paperW {k : Nat} {v : V6} (hv : B6 v) (hk : k < 5) : goodP (paperW k v) = true := by
  obtain ⟨⟨a0, a1⟩, ⟨b0, b1⟩, ⟨c0, c1⟩, ⟨d0, d1⟩, ⟨e0, e1⟩, ⟨f0, f1⟩⟩ := hv
  simp only [goodP, paperW, inB, in1, okSpan, List.all_cons, List.all_nil, Bool.and_true, Bool.and_eq_true, Bool.or_eq_true, decide_eq_true_eq, beq_iff_eq]
  refine ⟨⟨⟨⟨⟨?_, ?_⟩, ?_⟩, ?_⟩, ?_⟩, ?_⟩ <;> (try split) <;> first | omega | exact ⟨by omega, decide_eq_true (by omega)⟩

theorem good_fluteW {v : V3} (hv : B3 v) : goodF (fluteW v) = true := by
  obtain ⟨⟨a0, a1⟩, ⟨b0, b1⟩, ⟨c0, c1⟩⟩ := hv
  have p0 : 0 ≤ (1000 + 35 * v.a) * v.b := Int.mul_nonneg (by omega) b0
  have p1 : (1000 + 35 * v.a) * v.b ≤ (1000 + 35 * v.a) * 255 := Int.mul_le_mul_of_nonneg_left b1 (by omega)
  simp only [goodF, fluteW, inB, in1, okSpan, List.all_cons, List.all_nil, Bool.and_true, Bool.and_eq_true, decide_eq_true_eq]
  generalize (1000 + 35 * v.a) * v.b = p at *
  have q0 : 0 ≤ p / 255 := by omega
  have q1 : p / 255 ≤ 1000 + 35 * v.a := by omega
  refine ⟨⟨?_, ?_⟩, ?_⟩ <;> first | omega | exact ⟨by omega, decide_eq_true (by omega)⟩

theorem storeWP_good {P : List V6} (hP : ∀ v ∈ P, B6 v) : (storeWP P).all goodP = true := by
  rw [List.all_eq_true]
  intro p hp
  obtain ⟨i, hi, rfl⟩ := List.mem_map.1 hp
  have := (npW_bd P.length).2
  have hi' := List.mem_range.1 hi
  exact good_paperW (wareP_B hP (by omega)) (by omega)

theorem storeWF_good {F : List V3} (hF : ∀ v ∈ F, B3 v) : (storeWF F).all goodF = true := by
  rw [List.all_eq_true]
  intro p hp
  obtain ⟨i, hi, rfl⟩ := List.mem_map.1 hp
  exact good_fluteW (wareF_B hF i)

theorem kindRow_pos (P : List V6) (i : Nat) : 0 < (kindRow P i).length := by
  have := (npW_bd P.length).1
  unfold kindRow
  split
  · exact kindsW_pos1 P this
  · exact kindsW_pos2 P this

theorem pick_mem {L : List Int} (h : 0 < L.length) (n : Nat) : pickW L n ∈ L := by
  have hlt := Nat.mod_lt n h
  unfold pickW
  rw [List.getD_eq_getElem?_getD, List.getElem?_eq_getElem hlt]
  exact List.getElem_mem hlt

/-- What lies at a place of the board. -/
theorem makeWP_kind {P : List V6} {Y : List Int} {k : Nat} (h : k < 2 * flW Y + 1) : ∃ i : Nat, (makeWP P Y)[k]? = some (i : Int) ∧ i < npW P.length ∧ kindW P i = kindL k := by
  have hm := pick_mem (kindRow_pos P k) (byteL Y (k + 1)).toNat
  obtain ⟨i, e, hi, hk⟩ := kindsW_mem hm
  refine ⟨i, by rw [makeWP_at h, e], hi, ?_⟩
  rw [hk]
  unfold kindL
  by_cases h2 : k % 2 = 0
  · rw [if_pos h2, if_pos (by omega)]
  · rw [if_neg h2, if_neg (by omega)]

theorem ware_made {P : List V6} {F : List V3} (Y : List Int) (hP : ∀ v ∈ P, B6 v) (hF : ∀ v ∈ F, B3 v) : madeL (storeWP P) (storeWF F) (makeWP P Y) (makeWF F Y) = 0 := by
  obtain ⟨np2, np5⟩ := npW_bd P.length
  obtain ⟨nf1, nf3⟩ := nfW_bd F.length
  have lP := storeWP_len P
  have lF := storeWF_len F
  have mP := makeWP_len P Y
  have mF := makeWF_len F Y
  have hf := flW_12 Y
  have hc : checkL (storeWP P) (storeWF F) = 0 := by
    unfold checkL
    rw [storeWP_good hP, storeWF_good hF, if_neg (by omega), if_neg (by omega)]
    rfl
  have h1 : formedL (makeWP P Y) (makeWF F Y) = true := by
    unfold formedL
    rw [mP, mF]
    simp [inB, in1]
    omega
  have h2 : numberedL (makeWP P Y) (makeWF F Y) (storeWP P).length (storeWF F).length = true := by
    unfold numberedL inB
    rw [Bool.and_eq_true, List.all_eq_true, List.all_eq_true]
    constructor
    · intro x hx
      obtain ⟨k, hk⟩ := List.getElem?_of_mem hx
      have hlt := (List.getElem?_eq_some_iff.1 hk).1
      obtain ⟨i, e, hi, _⟩ := makeWP_kind (P := P) (Y := Y) (show k < 2 * flW Y + 1 by omega)
      rw [e] at hk
      cases hk
      simp [in1]
      omega
    · intro x hx
      obtain ⟨k, hk⟩ := List.getElem?_of_mem hx
      have hlt := (List.getElem?_eq_some_iff.1 hk).1
      have e := makeWF_at (F := F) (Y := Y) (show k < flW Y by omega)
      rw [e] at hk
      cases hk
      have := Nat.mod_lt (byteL Y (2 * k + 1 + 6)).toNat (show 0 < nfW F.length by omega)
      simp only [in1, Bool.and_eq_true, decide_eq_true_eq]
      omega
  have h3 : kindsOk (storeWP P) (makeWP P Y) = true := by
    refine kindsOk_true fun k hk => ?_
    obtain ⟨i, e, hi, hkk⟩ := makeWP_kind (P := P) (Y := Y) (show k < 2 * flW Y + 1 by omega)
    unfold kindOk
    rw [e]
    simp only [Int.toNat_natCast]
    rw [storeWP_at hi]
    simp only [beq_iff_eq]
    exact hkk
  unfold madeL
  rw [if_neg (by simp [hc]), if_neg (by rw [h1]; decide), if_neg (by rw [h2]; decide), if_neg (by rw [h3]; decide)]

theorem thickP_mono {ps : List Paper} {fs : List Flute} {mp mf : List Int} (F : Fine ps fs mp mf) : ∀ k, k ≤ mp.length → thickP false ps mp k ≤ thickP true ps mp k
  | 0, _ => by simp [thickP]
  | k + 1, hk => by
    have h := thickP_mono F k (by omega)
    obtain ⟨n, p, hn, hp, _⟩ := F.pap k (by omega)
    obtain ⟨_, _, _, h3, h4, h5, _⟩ := goodP_iff (F.good n p hp)
    have e : paperN ps (mp.getD k 0) = p := by simp [hn, paperN_eq hp]
    unfold thickP
    rw [e]
    unfold endOf
    split <;> simp <;> omega

theorem thickF_mono {ps : List Paper} {fs : List Flute} {mp mf : List Int} (F : Fine ps fs mp mf) {s t : Int} (hs : s ≤ t) : ∀ k, k ≤ mf.length → thickF false fs mf s k ≤ thickF true fs mf t k
  | 0, _ => by simpa [thickF] using hs
  | k + 1, hk => by
    have h := thickF_mono F hs k (by omega)
    obtain ⟨_, _, _, _, g1, g2, g3⟩ := flute_good F (show k < mf.length by omega)
    unfold thickF endOf
    simp
    omega

theorem thickF_pos {ps : List Paper} {fs : List Flute} {mp mf : List Int} (F : Fine ps fs mp mf) {s : Int} (hs : 0 ≤ s) : ∀ k : Nat, k ≤ mf.length → (k : Int) ≤ thickF false fs mf s k
  | 0, _ => by simpa [thickF] using hs
  | k + 1, hk => by
    have h := thickF_pos F hs k (by omega)
    obtain ⟨_, _, _, _, g1, g2, g3⟩ := flute_good F (show k < mf.length by omega)
    unfold thickF endOf
    simp
    omega

theorem thick_span {ps : List Paper} {fs : List Flute} {mp mf : List Int} (F : Fine ps fs mp mf) : 1 ≤ thickL false ps fs mp mf ∧ thickL false ps fs mp mf ≤ thickL true ps fs mp mf ∧ thickL true ps fs mp mf ≤ 1000000 := by
  obtain ⟨a0, a1⟩ := thickP_bd false F mp.length (Nat.le_refl _)
  obtain ⟨b0, b1⟩ := thickP_bd true F mp.length (Nat.le_refl _)
  have hm := F.mpl
  have h1 := F.f1
  have h2 := F.f2
  have p := thickF_pos F a0 mf.length (Nat.le_refl _)
  have m := thickF_mono F (thickP_mono F mp.length (Nat.le_refl _)) mf.length (Nat.le_refl _)
  obtain ⟨c0, c1⟩ := thickF_bd true F (s := thickP true ps mp mp.length) ⟨b0, by omega⟩ mf.length (Nat.le_refl _)
  unfold thickL
  omega

end Go.Proofs.Ytaommdjekddgiaa
