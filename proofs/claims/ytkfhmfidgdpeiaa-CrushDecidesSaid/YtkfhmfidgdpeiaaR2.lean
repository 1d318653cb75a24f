/- A region that draws its order, in which loads, calls and allocations come up in many orders, and stores at the end in one: an invariant over the set of what has come up. One proof for each operation, not for each order. -/
import Derived.Test.YtkfhmfidgdpeiaaR1
namespace Go.Proofs.Ytkfhmfidgdpeiaa
set_option linter.unusedVariables false
set_option linter.unusedSimpArgs false
open Go.RowKit

section
variable {P : Program} {ops : Array Oper} {Q : Exit → Act → World → Prop} {md : Region.Mode}

/-- How many of the first operations have not come up. -/
def remN (listed : Array Bool) : Nat → Nat
  | 0 => 0
  | k + 1 => remN listed k + if listed.getD k true = false then 1 else 0

theorem getD_set_eq (listed : Array Bool) {i : Nat} (h : listed.getD i true = false) : (listed.setIfInBounds i true).getD i true = true := by
  have hi : i < listed.size := by
    rcases Nat.lt_or_ge i listed.size with h' | h'
    · exact h'
    · simp [Array.getElem?_eq_none h'] at h
  simp [hi]

theorem remN_past (listed : Array Bool) (i : Nat) : ∀ k, k ≤ i → remN (listed.setIfInBounds i true) k = remN listed k
  | 0, _ => rfl
  | k + 1, h => by
    unfold remN
    rw [remN_past listed i k (by omega), getD_set_ne true (show i ≠ k by omega)]

theorem remN_set (listed : Array Bool) {i : Nat} (hi : listed.getD i true = false) : ∀ k, i < k → remN (listed.setIfInBounds i true) k + 1 = remN listed k
  | 0, h => by omega
  | k + 1, h => by
    unfold remN
    by_cases e : i = k
    · subst e
      rw [remN_past listed i i (Nat.le_refl _), getD_set_eq listed hi, hi]
      simp
    · have := remN_set listed hi k (by omega)
      rw [getD_set_ne true (show i ≠ k from e)]
      omega

theorem remN_zero {listed : Array Bool} : ∀ k, remN listed k = 0 → ∀ j, j < k → listed.getD j true = true
  | 0, _, j, h => by omega
  | k + 1, h0, j, hj => by
    unfold remN at h0
    by_cases e : j = k
    · subst e
      cases h : listed.getD j true with
      | true => rfl
      | false => simp [h] at h0
    · exact remN_zero k (by omega) j (by omega)

theorem remN_full (s : Nat) : ∀ k, k ≤ s → remN (Array.replicate s false) k = k
  | 0, _ => rfl
  | k + 1, h => by
    unfold remN
    rw [remN_full s k (by omega), if_pos (getD_in (by simp only [Array.size_replicate]; omega) (getD_replicate_false _ _))]

theorem first_unlisted (listed : Array Bool) : ∀ m, (∀ j, j < m → listed.getD j true = true) ∨ ∃ i, i < m ∧ listed.getD i true = false ∧ ∀ j, j < i → listed.getD j true = true
  | 0 => .inl (fun j h => by omega)
  | m + 1 => by
    rcases first_unlisted listed m with h | ⟨i, hi, h0, h1⟩
    · cases e : listed.getD m true with
      | true => exact .inl (fun j hj => by
          by_cases ej : j = m
          · subst ej; exact e
          · exact h j (by omega))
      | false => exact .inr ⟨m, by omega, e, h⟩
    · exact .inr ⟨i, by omega, h0, h1⟩

/-- Each of the first n operations waits only for ones before it. -/
def minB (md : Region.Mode) (ops : Array Oper) (n : Nat) : Bool :=
  (List.range n).all fun i => match ops[i]? with
    | none => true
    | some o => o.after.all fun e => !(Region.binds md e) || decide (e.on < i)

theorem minB_spec {n : Nat} (h : minB md ops n = true) {i : Nat} {o : Oper} (hi : i < n) (ho : ops[i]? = some o) {e} (he : e ∈ o.after) (hb : Region.binds md e = true) : e.on < i := by
  have := List.all_eq_true.1 h i (by simpa using hi)
  rw [ho] at this
  simp only [Array.all_eq_true'] at this
  have := this e he
  simpa [hb] using this

theorem wpAny_inv {n g : Nat} (hs : Region.sinkB md ops n = true) (hc : Region.chainB md ops n = true) (hn : n < ops.size) (hm : minB md ops n = true) (J : Array Bool → Act → World → Prop)
    (hstep : ∀ i o, i < n → ops[i]? = some o → ∀ listed a w, listed.size = ops.size → listed.getD i true = false → (∀ e ∈ o.after, Region.binds md e = true → listed.getD e.on false = true) → J listed a w → wpOp P ops Q i (fun a' w' => J (listed.setIfInBounds i true) a' w') a w)
    (hend : ∀ listed a w, HeadInv md ops n listed → (∀ j, j < n → listed.getD j true = true) → J listed a w → wpAny P md ops Q g listed a w) :
    ∀ (f : Nat) (listed : Array Bool) (a : Act) (w : World), HeadInv md ops n listed → remN listed n = f → J listed a w → wpAny P md ops Q (f + g) listed a w
  | 0, listed, a, w, inv, hf, hJ => by
    rw [Nat.zero_add]
    exact hend listed a w inv (remN_zero n hf) hJ
  | f + 1, listed, a, w, inv, hf, hJ => by
    rcases first_unlisted listed n with h | ⟨i, hi, h0, h1⟩
    · have : remN listed n = 0 := by
        clear hf inv hJ hend hstep hs hc hn hm
        induction n with
        | zero => rfl
        | succ k ih =>
          unfold remN
          rw [ih (fun j hj => h j (by omega)), h k (by omega)]
          simp
      omega
    · have hlt : i < ops.size := by omega
      have hready : i ∈ Region.ready md ops listed := by
        refine mem_ready.2 ⟨h0, ops[i], Array.getElem?_eq_getElem hlt, fun e he hb => ?_⟩
        have hlt' := minB_spec hm hi (Array.getElem?_eq_getElem hlt) he hb
        have h2 := h1 e.on hlt'
        have : e.on < listed.size := by rw [inv.size]; omega
        simp [this] at h2 ⊢
        exact h2
      rw [show f + 1 + g = (f + g) + 1 by omega]
      refine ⟨fun hnil => (by rw [hnil] at hready; cases hready), fun j hj => ?_⟩
      have hjn : j < n := by
        rcases Nat.lt_or_ge j n with h | h
        · exact h
        · exact absurd hj (tail_waits hs hc hn inv _ i rfl hi h0 j h)
      obtain ⟨hj0, o, ho, hdep⟩ := mem_ready.1 hj
      refine wpOp_mono (fun a' w' h' => ?_) (hstep j o hjn ho listed a w inv.size hj0 hdep hJ)
      exact wpAny_inv hs hc hn hm J hstep hend f _ a' w' (inv.set hj hjn) (by have := remN_set listed hj0 n hjn; omega) h'

/-- So many of its waits, told as pairs. -/
def depB (md : Region.Mode) (ops : Array Oper) (ds : List (Nat × Nat)) : Bool :=
  ds.all fun p => match ops[p.1]? with
    | none => false
    | some o => o.after.any fun e => Region.binds md e && decide (e.on = p.2)

theorem depB_spec {ds : List (Nat × Nat)} (h : depB md ops ds = true) {i j : Nat} (hij : (i, j) ∈ ds) {o : Oper} (ho : ops[i]? = some o) : ∃ e ∈ o.after, Region.binds md e = true ∧ e.on = j := by
  have := List.all_eq_true.1 h _ hij
  simp only [ho] at this
  obtain ⟨e, he, hh⟩ := Array.any_eq_true'.1 this
  simp only [Bool.and_eq_true, decide_eq_true_eq] at hh
  exact ⟨e, he, hh.1, hh.2⟩

theorem wp_region_inv {id : Nat} {a : Act} {w : World} {l : List Oper} (n : Nat) (J : Array Bool → Act → World → Prop) (hm : P.follows .mixedOrders = true)
    (hB : (decide (n < l.toArray.size) && Region.sinkB .any l.toArray n && Region.chainB .any l.toArray n && minB .any l.toArray n && Region.seqB .any l.toArray (l.toArray.size - n) n (Array.replicate n true ++ Array.replicate (l.toArray.size - n) false)) = true)
    (hJ : J (Array.replicate l.toArray.size false) a w.drew)
    (hstep : ∀ i o, i < n → l.toArray[i]? = some o → ∀ listed a w, listed.size = l.toArray.size → listed.getD i true = false → (∀ e ∈ o.after, Region.binds .any e = true → listed.getD e.on false = true) → J listed a w → wpOp P l.toArray Q i (fun a' w' => J (listed.setIfInBounds i true) a' w') a w)
    (hend : ∀ listed a w, listed.size = l.toArray.size → (∀ j, j < n → listed.getD j true = true) → J listed a w → wpList P l.toArray Q (l.drop n) a w) : (Code.region id l.toArray true).wp P Q a w := by
  simp only [Bool.and_eq_true, decide_eq_true_eq] at hB
  obtain ⟨⟨⟨⟨hn, hs⟩, hc⟩, hmin⟩, hseq⟩ := hB
  have hn' : n < l.length := by simpa using hn
  have hdl : (l.drop n).length = l.toArray.size - n := by simp
  have inv0 : HeadInv .any l.toArray n (Array.replicate l.toArray.size false) :=
    ⟨by simp, fun j oj _ hl => (by rw [getD_replicate_false] at hl; cases hl), fun t _ ht => getD_in (by simpa using ht) (getD_replicate_false _ _)⟩
  refine wp_region_any hm ?_
  have := wpAny_inv (md := .any) (g := l.toArray.size - n) (Q := Q) hs hc hn hmin J hstep (fun listed a' w' inv hall hJ' => by
    have e : listed = Array.replicate n true ++ Array.replicate (l.toArray.size - n) false := by
      apply Array.ext
      · rw [inv.size]; simp; omega
      · intro j h1 h2
        rcases Nat.lt_or_ge j n with h | h
        · have := hall j h
          simp [h1] at this
          rw [this, Array.getElem_append_left (by simpa using h)]
          simp
        · have := inv.tail j h (by rw [inv.size] at h1; exact h1)
          simp [h1] at this
          rw [this, Array.getElem_append_right (by simpa using h)]
          simp
    have h := wpAny_of_seq (md := .any) (Q' := Q) (l.drop n) n listed a' w' (fun j => by simp [List.getElem?_drop]) (by rw [hdl, e]; exact hseq) (hend listed a' w' inv.size hall hJ')
    rwa [hdl] at h) n (Array.replicate l.toArray.size false) a w.drew inv0 (remN_full _ n (by omega)) hJ
  rw [show n + (l.toArray.size - n) = l.toArray.size by omega] at this
  exact this

end

end Go.Proofs.Ytkfhmfidgdpeiaa
