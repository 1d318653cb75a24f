/- The odd ones: what follows of crush's odd. -/
import Derived.Test.YtkfhmfidgdpeiaaI30
namespace Go.Proofs.Ytkfhmfidgdpeiaa
set_option linter.unusedVariables false
set_option linter.unusedSimpArgs false

/-- The greatest beginning and the least end of what is left, up to a place. -/
def nrL (off : Int) (l : List Int) (f : Int → Bool) : Nat → Int × Int
  | 0 => (0, 1048576)
  | k + 1 => if f (k : Int) = true then nrL off l f k else (max (nrL off l f k).1 (l.getD k 0 - off), min (nrL off l f k).2 (l.getD k 0 + off))

def nearB (off spread : Int) (l : List Int) (f : Int → Bool) : Bool := decide ((nrL off l f l.length).1 - (nrL off l f l.length).2 ≤ spread)

theorem near_le (off : Int) (l : List Int) (f : Int → Bool) (B : Int) : ∀ k : Nat, (nrL off l f k).1 ≤ B ↔ 0 ≤ B ∧ ∀ i, i < k → f (i : Int) = false → l.getD i 0 - off ≤ B
  | 0 => by simp [nrL]
  | k + 1 => by
    have ih := near_le off l f B k
    unfold nrL
    by_cases h : f (k : Int) = true
    · rw [if_pos h, ih]
      constructor
      · rintro ⟨h0, h1⟩
        refine ⟨h0, fun i hi hf => ?_⟩
        rcases Nat.lt_or_ge i k with h2 | h2
        · exact h1 i h2 hf
        · obtain rfl : i = k := by omega
          rw [h] at hf
          cases hf
      · rintro ⟨h0, h1⟩
        exact ⟨h0, fun i hi hf => h1 i (by omega) hf⟩
    · rw [if_neg h]
      dsimp only
      rw [Int.max_le, ih]
      constructor
      · rintro ⟨⟨h0, h1⟩, h3⟩
        refine ⟨h0, fun i hi hf => ?_⟩
        rcases Nat.lt_or_ge i k with h2 | h2
        · exact h1 i h2 hf
        · obtain rfl : i = k := by omega
          exact h3
      · rintro ⟨h0, h1⟩
        exact ⟨⟨h0, fun i hi hf => h1 i (by omega) hf⟩, h1 k (by omega) (by simpa using h)⟩

theorem le_near (off : Int) (l : List Int) (f : Int → Bool) (B : Int) : ∀ k : Nat, B ≤ (nrL off l f k).2 ↔ B ≤ 1048576 ∧ ∀ i, i < k → f (i : Int) = false → B ≤ l.getD i 0 + off
  | 0 => by simp [nrL]
  | k + 1 => by
    have ih := le_near off l f B k
    unfold nrL
    by_cases h : f (k : Int) = true
    · rw [if_pos h, ih]
      constructor
      · rintro ⟨h0, h1⟩
        refine ⟨h0, fun i hi hf => ?_⟩
        rcases Nat.lt_or_ge i k with h2 | h2
        · exact h1 i h2 hf
        · obtain rfl : i = k := by omega
          rw [h] at hf
          cases hf
      · rintro ⟨h0, h1⟩
        exact ⟨h0, fun i hi hf => h1 i (by omega) hf⟩
    · rw [if_neg h]
      dsimp only
      rw [Int.le_min, ih]
      constructor
      · rintro ⟨⟨h0, h1⟩, h3⟩
        refine ⟨h0, fun i hi hf => ?_⟩
        rcases Nat.lt_or_ge i k with h2 | h2
        · exact h1 i h2 hf
        · obtain rfl : i = k := by omega
          exact h3
      · rintro ⟨h0, h1⟩
        exact ⟨⟨h0, fun i hi hf => h1 i (by omega) hf⟩, h1 k (by omega) (by simpa using h)⟩

theorem except_mem {p : Int → Bool} {l : List Int} {n i : Nat} : i ∈ exceptTo p l n ↔ i < n ∧ p (l.getD i 0) = false := by
  unfold exceptTo
  rw [List.mem_filter, List.mem_range]
  simp

theorem odd_some (off spread : Int) (l : List Int) : ∀ k, 0 < k → ∃ j, j < k ∧ oddTo off spread l k = leftL off spread l j
  | 0, h => by omega
  | k + 1, _ => by
    unfold oddTo
    split
    · exact ⟨k, by omega, rfl⟩
    · rename_i h
      have hk : ¬ k = 0 := fun e => h (.inl e)
      obtain ⟨j, hj, e⟩ := odd_some off spread l k (by omega)
      exact ⟨j, by omega, e⟩

theorem odd_le (off spread : Int) (l : List Int) : ∀ k j, j < k → (oddTo off spread l k).length ≤ (leftL off spread l j).length
  | 0, j, h => by omega
  | k + 1, j, hj => by
    unfold oddTo
    by_cases hk : j < k
    · have ih := odd_le off spread l k j hk
      split
      · rename_i h
        rcases h with h | h | h
        · omega
        · omega
        · omega
      · exact ih
    · obtain rfl : j = k := by omega
      split
      · exact Nat.le_refl _
      · rename_i h
        rcases Nat.lt_or_ge (leftL off spread l j).length (oddTo off spread l j).length with h1 | h1
        · exact absurd (.inr (.inl h1)) h
        · exact h1

theorem left_len (off spread : Int) (l : List Int) (j : Nat) : (leftL off spread l j).length ≤ l.length := exceptTo_len _ _ _

theorem odd_len (off spread : Int) (l : List Int) : (oddTo off spread l l.length).length ≤ l.length := by
  rcases Nat.eq_zero_or_pos l.length with h | h
  · rw [h]; simp [oddTo]
  · obtain ⟨j, _, e⟩ := odd_some off spread l l.length h
    rw [e]
    exact left_len off spread l j

/-- The readings of bytes. -/
def Reads (l : List Int) : Prop := ∀ i, i < l.length → 0 ≤ l.getD i 0 ∧ l.getD i 0 ≤ 255

theorem left_mem {off spread : Int} {l : List Int} (hl : Reads l) (o1 : off ≤ 100) {i j : Nat} (hj : j < l.length) : i ∈ leftL off spread l j ↔ i < l.length ∧ ¬ (l.getD j 0 ≤ l.getD i 0 ∧ max 0 (l.getD i 0 - off) ≤ l.getD j 0 + off + spread) := by
  unfold leftL
  rw [except_mem]
  constructor
  · rintro ⟨h1, h2⟩
    refine ⟨h1, fun h3 => ?_⟩
    have h4 := hl i h1
    have h5 := hl j hj
    have : inWin off spread (min 100000 (l.getD j 0 + off)) (l.getD i 0) = true := by
      unfold inWin
      rw [Bool.and_eq_true, decide_eq_true_eq, decide_eq_true_eq]
      omega
    rw [this] at h2
    cases h2
  · rintro ⟨h1, h2⟩
    refine ⟨h1, ?_⟩
    have h4 := hl i h1
    have h5 := hl j hj
    cases h : inWin off spread (min 100000 (l.getD j 0 + off)) (l.getD i 0) with
    | false => rfl
    | true =>
      exfalso
      apply h2
      unfold inWin at h
      rw [Bool.and_eq_true, decide_eq_true_eq, decide_eq_true_eq] at h
      omega

/-- Without the odd ones the others are near. -/
theorem odd_near {off spread : Int} {l : List Int} (hl : Reads l) (o0 : 0 ≤ off) (o1 : off ≤ 100) (s0 : 0 ≤ spread) (f : Int → Bool) (hf : ∀ i : Nat, i < l.length → (f (i : Int) = true ↔ i ∈ oddTo off spread l l.length)) : nearB off spread l f = true := by
  unfold nearB
  rw [decide_eq_true_eq]
  rcases Nat.eq_zero_or_pos l.length with h | h
  · rw [h]
    simp only [nrL]
    omega
  · obtain ⟨j, hj, e⟩ := odd_some off spread l l.length h
    have hjb := hl j hj
    have key : ∀ i, i < l.length → f (i : Int) = false → l.getD j 0 ≤ l.getD i 0 ∧ max 0 (l.getD i 0 - off) ≤ l.getD j 0 + off + spread := fun i hi hfi => by
      have hn : ¬ i ∈ oddTo off spread l l.length := fun hm => by
        rw [(hf i hi).2 hm] at hfi
        cases hfi
      rw [e, left_mem hl o1 hj] at hn
      by_cases h2 : l.getD j 0 ≤ l.getD i 0 ∧ max 0 (l.getD i 0 - off) ≤ l.getD j 0 + off + spread
      · exact h2
      · exact absurd ⟨hi, h2⟩ hn
    have a1 := (near_le off l f (l.getD j 0 + off + spread) l.length).2 ⟨by omega, fun i hi hfi => by have := key i hi hfi; omega⟩
    have a2 := (le_near off l f (l.getD j 0 + off) l.length).2 ⟨by omega, fun i hi hfi => by have := key i hi hfi; omega⟩
    omega

theorem min_at (p : Nat → Bool) (v : Nat → Int) : ∀ n, (∃ j, j < n ∧ p j = true) → ∃ j, j < n ∧ p j = true ∧ ∀ i, i < n → p i = true → v j ≤ v i
  | 0, ⟨j, h, _⟩ => by omega
  | n + 1, h => by
    by_cases hn : ∃ j, j < n ∧ p j = true
    · obtain ⟨j, hj, hp, hm⟩ := min_at p v n hn
      by_cases h2 : p n = true ∧ v n < v j
      · refine ⟨n, by omega, h2.1, fun i hi hpi => ?_⟩
        rcases Nat.lt_or_ge i n with h3 | h3
        · have := hm i h3 hpi
          omega
        · obtain rfl : i = n := by omega
          omega
      · refine ⟨j, by omega, hp, fun i hi hpi => ?_⟩
        rcases Nat.lt_or_ge i n with h3 | h3
        · exact hm i h3 hpi
        · obtain rfl : i = n := by omega
          rcases Int.lt_or_le (v i) (v j) with h4 | h4
          · exact absurd ⟨hpi, h4⟩ h2
          · exact h4
    · obtain ⟨j, hj, hp⟩ := h
      have hjn : j = n := by
        rcases Nat.lt_or_ge j n with h3 | h3
        · exact absurd ⟨j, h3, hp⟩ hn
        · omega
      subst hjn
      refine ⟨j, hj, hp, fun i hi hpi => ?_⟩
      rcases Nat.lt_or_ge i j with h3 | h3
      · exact absurd ⟨i, h3, hpi⟩ hn
      · obtain rfl : i = j := by omega
        exact Int.le_refl _

/-- How many are gone. -/
def cntB (g : Int → Bool) (n : Nat) : Nat := ((List.range n).filter fun i : Nat => g (i : Int)).length

theorem cntB_succ (g : Int → Bool) (n : Nat) : cntB g (n + 1) = cntB g n + if g (n : Int) = true then 1 else 0 := by
  unfold cntB
  rw [List.range_succ, List.filter_append, List.length_append]
  by_cases h : g (n : Int) = true <;> simp [h]

theorem filter_len {p q : Nat → Bool} : ∀ L : List Nat, (∀ i ∈ L, p i = true → q i = true) → (L.filter p).length ≤ (L.filter q).length
  | [], _ => Nat.le_refl _
  | x :: L, h => by
    have ih := filter_len L (fun i hi => h i (List.mem_cons_of_mem _ hi))
    have hx := h x List.mem_cons_self
    cases hp : p x <;> cases hq : q x
    · simpa [List.filter_cons, hp, hq] using ih
    · simp [List.filter_cons, hp, hq]; omega
    · rw [hp, hq] at hx
      exact absurd (hx rfl) (by decide)
    · simpa [List.filter_cons, hp, hq] using ih

/-- Without fewer of them the others are not near. -/
theorem odd_few {off spread : Int} {l : List Int} (hl : Reads l) (o0 : 0 ≤ off) (o1 : off ≤ 100) (s0 : 0 ≤ spread) (g : Int → Bool) (h : nearB off spread l g = true) : (oddTo off spread l l.length).length ≤ cntB g l.length := by
  unfold nearB at h
  rw [decide_eq_true_eq] at h
  by_cases ha : ∃ j, j < l.length ∧ (!g ((j : Nat) : Int)) = true
  · obtain ⟨j, hj, hp, hm⟩ := min_at (fun i : Nat => !g (i : Int)) (fun i => l.getD i 0) l.length ha
    have hgj : g (j : Int) = false := by simpa using hp
    have e1 := (near_le off l g (nrL off l g l.length).1 l.length).1 (Int.le_refl _)
    have e2 := (le_near off l g (nrL off l g l.length).2 l.length).1 (Int.le_refl _)
    have e3 := e2.2 j hj hgj
    refine Nat.le_trans (odd_le off spread l l.length j hj) ?_
    unfold leftL exceptTo cntB
    refine filter_len _ (fun i hi hpi => ?_)
    rw [List.mem_range] at hi
    cases hg : g (i : Int) with
    | true => rfl
    | false =>
      exfalso
      have hmi := hm i hi (by simp [hg])
      have e4 := e1.2 i hi hg
      have hn : i ∈ leftL off spread l j := by
        unfold leftL
        rw [except_mem]
        exact ⟨hi, by simpa using hpi⟩
      rw [left_mem hl o1 hj] at hn
      apply hn.2
      omega
  · have hall : ∀ i, i < l.length → g (i : Int) = true := fun i hi => by
      cases hg : g (i : Int) with
      | true => rfl
      | false => exact absurd ⟨i, hi, by simp [hg]⟩ ha
    have hc : cntB g l.length = l.length := by
      unfold cntB
      rw [List.filter_eq_self.2 (fun i hi => hall i (List.mem_range.1 hi)), List.length_range]
    rw [hc]
    exact odd_len off spread l

/-- With a greater spread, or a worse gauge, no more are left out. -/
theorem odd_more {off off' spread spread' : Int} {l : List Int} (hl : Reads l) (o0 : 0 ≤ off) (o1 : off ≤ off') (o2 : off' ≤ 100) (s0 : spread ≤ spread') : (oddTo off' spread' l l.length).length ≤ (oddTo off spread l l.length).length := by
  rcases Nat.eq_zero_or_pos l.length with h | h
  · rw [h]; simp [oddTo]
  · obtain ⟨j, hj, e⟩ := odd_some off spread l l.length h
    rw [e]
    refine Nat.le_trans (odd_le off' spread' l l.length j hj) ?_
    unfold leftL exceptTo
    refine filter_len _ (fun i hi hpi => ?_)
    rw [List.mem_range] at hi
    have h1 : i ∈ leftL off' spread' l j := by
      unfold leftL
      rw [except_mem]
      exact ⟨hi, by simpa using hpi⟩
    have h2 : i ∈ leftL off spread l j := by
      rw [left_mem hl (by omega) hj] at h1 ⊢
      exact ⟨hi, fun h3 => h1.2 (by omega)⟩
    unfold leftL at h2
    rw [except_mem] at h2
    simpa using h2.2

theorem odd_sorted (off spread : Int) (l : List Int) : (oddTo off spread l l.length).Pairwise (· < ·) ∧ ∀ i ∈ oddTo off spread l l.length, i < l.length := by
  rcases Nat.eq_zero_or_pos l.length with h | h
  · rw [h]; simp [oddTo]
  · obtain ⟨j, hj, e⟩ := odd_some off spread l l.length h
    rw [e]
    refine ⟨?_, fun i hi => ?_⟩
    · unfold leftL exceptTo
      exact List.Pairwise.filter _ List.pairwise_lt_range
    · unfold leftL at hi
      exact (except_mem.1 hi).1

end Go.Proofs.Ytkfhmfidgdpeiaa
