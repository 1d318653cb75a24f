/- TopTestedBoard's numbers: lots that surely pass, surely fail. crush: what is known of a lot, as more is read of it. Chapter 3's piles: boxes and a table out of bytes. Append onto one of two rows: the rows stay apart. Contracts of the law's ints and passes. A region that draws its order: many operations that only read, one operation that does not wait for them (an allocation), then stores: one walk of the reads serves every order. Chapter 3's piles: the law's pile. (Made by gen_n2.py.) Chapter 3's piles: boxes, steps, byteOf. Chapter 3's piles: the law's stays. What CrushStands says of piles, without memory. The reference's In, Span, Box, Strength of chapter 3. The reference's Readings, Rule, Passes of chapter 3; Decide and Need of what is not valid. (Made by gen_o4.py.) The reference's Boxes and Stack of chapter 3. The reference's Kept, Load and Fails of chapter 3. The reference's Fall and Stands of chapter 3: day by day it is as step by step. The reference's Table, Through, Stacks and Tables of chapter 3. Equal boxes: when they stand; the reference's High. CrushHighs' own body. CrushFalls' own body. (Made by gen_j8.py.) A law's end: it returned true and the world only grew. And: what an argument is that is made of integers of one kind. Contracts of pubMade, pubSingle, pubDouble. Contract of pubOwn: a copy of a store. Contract of pubStore. The contract of armStore. (Made by gen_arm1.py.) What an argument is that is a slice of small arrays of bytes; a struct of three slices. A lot that comes in. Boxes, stacks and tables that come in. -/
import Derived.Test.YtjdeojpapdphoaaQI33b
import Derived.Test.YtjdeojpapdphoaaQI33a
import Derived.BigQuiet
import Derived.Test.YtjdeojpapdphoaaQI33c
import Derived.Deep.CutRange
import Derived.Deep.AppendLies
import Derived.ProofKit
import Derived.OpenShut
import Derived.ChangeSame
import Derived.Carry
import Derived.Deep.RegionHeld3
import Derived.Deep.QuietTactic
import Derived.Deep.DeepCutAuto
import Derived.Deep.MidRow
namespace Go.Proofs.Ytjdeojpapdphoaa
set_option linter.unusedVariables false
set_option linter.unusedSimpArgs false
open Go.RowKit

theorem sumS_ge (hi : Bool) (m : Int) : ∀ l : List (Int × Int), (∀ x ∈ l, m ≤ if hi then x.2 else x.1) → (l.length : Int) * m ≤ sumS hi l
  | [], _ => by simp [sumS]
  | y :: l, h => by
    have h1 := sumS_ge hi m l (fun x hx => h x (List.mem_cons_of_mem _ hx))
    have h2 := h y List.mem_cons_self
    simp only [sumS, List.length_cons]
    rw [show ((l.length + 1 : Nat) : Int) = (l.length : Int) + 1 by omega, Int.add_mul, Int.one_mul]
    omega

theorem sumS_le (hi : Bool) (m : Int) : ∀ l : List (Int × Int), (∀ x ∈ l, (if hi then x.2 else x.1) ≤ m) → sumS hi l ≤ (l.length : Int) * m
  | [], _ => by simp [sumS]
  | y :: l, h => by
    have h1 := sumS_le hi m l (fun x hx => h x (List.mem_cons_of_mem _ hx))
    have h2 := h y List.mem_cons_self
    simp only [sumS, List.length_cons]
    rw [show ((l.length + 1 : Nat) : Int) = (l.length : Int) + 1 by omega, Int.add_mul, Int.one_mul]
    omega

theorem badS_len (hi : Bool) (low : Int) : ∀ l : List (Int × Int), badS hi low l ≤ (l.length : Int)
  | [] => by simp [badS]
  | y :: l => by
    have := badS_len hi low l
    simp only [badS, List.length_cons]
    split <;> split <;> omega

theorem truthsL_len (te : Nat) (off : Int) (l : List Int) : (truthsL te off l).length = te := by simp [truthsL]

/-- All readings so great that the least truths are at least the mean: the lot passes. -/
theorem state_pass (n : Nat) (m off : Int) (l : List Int) (h : ∀ k, k < n → m ≤ (truthAt off l k).1) : stateL (n : Int) m 0 (n : Int) (truthsL n off l) = 1 := by
  have hall : ∀ x ∈ truthsL n off l, m ≤ if false = true then x.2 else x.1 := fun x hx => by
    obtain ⟨k, hk, rfl⟩ := List.mem_map.1 hx
    simpa using h k (List.mem_range.1 hk)
  have h1 := sumS_ge false m _ hall
  have h2 := badS_len false 0 (truthsL n off l)
  rw [truthsL_len] at h1 h2
  unfold stateL
  rw [if_pos]
  unfold passB
  rw [decide_eq_true h2, decide_eq_true h1]
  rfl

/-- All readings so small that the greatest truths are below the mean: it fails. -/
theorem state_fail (n : Nat) (hn : 1 ≤ n) (m off : Int) (l : List Int) (h : ∀ k, k < n → (truthAt off l k).2 ≤ m - 1 ∧ (truthAt off l k).1 ≤ m - 1) : stateL (n : Int) m 0 (n : Int) (truthsL n off l) = 2 := by
  have aux : ∀ hi : Bool, passB hi (n : Int) m 0 (n : Int) (truthsL n off l) = false := fun hi => by
    have hall : ∀ x ∈ truthsL n off l, (if hi then x.2 else x.1) ≤ m - 1 := fun x hx => by
      obtain ⟨k, hk, rfl⟩ := List.mem_map.1 hx
      have := h k (List.mem_range.1 hk)
      cases hi
      · simpa using this.2
      · simpa using this.1
    have h1 := sumS_le hi (m - 1) _ hall
    rw [truthsL_len, Int.mul_sub, Int.mul_one] at h1
    have h3 : ¬ (n : Int) * m ≤ sumS hi (truthsL n off l) := by omega
    unfold passB
    rw [decide_eq_false h3, Bool.and_false]
  unfold stateL
  rw [aux false, aux true]
  simp

/-- A lot that passes with n tests needs at most n. -/
theorem need_in (n : Nat) (m low ba off : Int) (st rd : Int) (h : stAt n m low ba off [] rd n = st) : 0 ≤ needL n m low ba off [] st rd ∧ needL n m low ba off [] st rd ≤ n := by
  unfold needL
  cases hf : (List.range (n + 1 - ([] : List Int).length)).find? (fun k => decide (stAt n m low ba off [] rd k = st)) with
  | none =>
    rw [List.find?_range_eq_none] at hf
    have := hf n (by simp)
    simp [h] at this
  | some k =>
    have := List.mem_range.1 (List.mem_of_find?_eq_some hf)
    simp at this ⊢
    omega

/-- What fails needs none. -/
theorem need_zero (n : Nat) (m low ba off : Int) (l : List Int) (hl : l.length ≤ n) (st rd : Int) (h : stateL (n : Int) m low ba (truthsL n off l) = st) : needL n m low ba off l st rd = 0 := by
  have hf : (List.range (n + 1 - l.length)).find? (fun k => decide (stAt n m low ba off l rd k = st)) = some 0 := by
    rw [List.find?_range_eq_some]
    exact ⟨by simp [stAt, h], List.mem_range.2 (by omega), fun j hj => by omega⟩
  unfold needL
  rw [hf]
  rfl

end Go.Proofs.Ytjdeojpapdphoaa

namespace Go.Proofs.Ytjdeojpapdphoaa
set_option linter.unusedVariables false
set_option linter.unusedSimpArgs false

/-- Truths that lie within others. -/
def Within : List (Int × Int) → List (Int × Int) → Prop
  | [], [] => True
  | x :: l, y :: m => (x.1 ≤ y.1 ∧ y.2 ≤ x.2) ∧ Within l m
  | _, _ => False

theorem within_sum : ∀ {l m : List (Int × Int)}, Within l m → sumS false l ≤ sumS false m ∧ sumS true m ≤ sumS true l
  | [], [], _ => by simp [sumS]
  | x :: l, y :: m, h => by
    obtain ⟨⟨a, b⟩, c⟩ := h
    obtain ⟨p, q⟩ := within_sum c
    simp only [sumS, Bool.false_eq_true, if_false, if_true]
    omega
  | [], _ :: _, h => h.elim
  | _ :: _, [], h => h.elim

theorem within_bad {low : Int} : ∀ {l m : List (Int × Int)}, Within l m → badS false low m ≤ badS false low l ∧ badS true low l ≤ badS true low m
  | [], [], _ => by simp [badS]
  | x :: l, y :: m, h => by
    obtain ⟨⟨a, b⟩, c⟩ := h
    obtain ⟨p, q⟩ := within_bad (low := low) c
    simp only [badS, Bool.false_eq_true, if_false, if_true]
    have h1 : (if y.1 < low then (1 : Int) else 0) ≤ if x.1 < low then 1 else 0 := by split <;> split <;> omega
    have h2 : (if x.2 < low then (1 : Int) else 0) ≤ if y.2 < low then 1 else 0 := by split <;> split <;> omega
    omega
  | [], _ :: _, h => h.elim
  | _ :: _, [], h => h.elim

theorem passB_iff {hi : Bool} {te me low ba : Int} {l : List (Int × Int)} : passB hi te me low ba l = true ↔ badS hi low l ≤ ba ∧ te * me ≤ sumS hi l := by
  unfold passB
  rw [Bool.and_eq_true, decide_eq_true_eq, decide_eq_true_eq]

theorem within_lo {te me low ba : Int} {l m : List (Int × Int)} (h : Within l m) (hp : passB false te me low ba l = true) : passB false te me low ba m = true := by
  rw [passB_iff] at hp ⊢
  have h1 := within_sum h
  have h2 := within_bad (low := low) h
  omega

theorem within_hi {te me low ba : Int} {l m : List (Int × Int)} (h : Within l m) (hp : passB true te me low ba m = true) : passB true te me low ba l = true := by
  rw [passB_iff] at hp ⊢
  have h1 := within_sum h
  have h2 := within_bad (low := low) h
  omega

theorem within_map {f g : Nat → Int × Int} : ∀ L : List Nat, (∀ k ∈ L, (f k).1 ≤ (g k).1 ∧ (g k).2 ≤ (f k).2) → Within (L.map f) (L.map g)
  | [], _ => trivial
  | x :: L, h => ⟨h x List.mem_cons_self, within_map L (fun k hk => h k (List.mem_cons_of_mem _ hk))⟩

/-- Truths that are known. -/
def diag (l : List Int) : List (Int × Int) := l.map fun t => (t, t)

theorem diag_sum (hi : Bool) : ∀ l, sumS hi (diag l) = sumS false (diag l)
  | [] => rfl
  | x :: l => by
    have := diag_sum hi l
    simp only [diag, List.map_cons] at this ⊢
    cases hi <;> simp [sumS] <;> simpa using this

theorem diag_bad (hi : Bool) (low : Int) : ∀ l, badS hi low (diag l) = badS false low (diag l)
  | [] => rfl
  | x :: l => by
    have := diag_bad hi low l
    simp only [diag, List.map_cons] at this ⊢
    cases hi <;> simp [badS] <;> simpa using this

theorem diag_pass (hi : Bool) (te me low ba : Int) (l : List Int) : passB hi te me low ba (diag l) = passB false te me low ba (diag l) := by
  unfold passB
  rw [diag_sum hi, diag_bad hi]

theorem state_one {te me low ba : Int} {X : List (Int × Int)} : stateL te me low ba X = 1 ↔ passB false te me low ba X = true := by
  unfold stateL
  by_cases h : passB false te me low ba X = true
  · simp [h]
  · rw [if_neg h]
    constructor
    · intro h2
      split at h2 <;> omega
    · intro h2
      exact absurd h2 h

theorem state_two {te me low ba : Int} {X : List (Int × Int)} : stateL te me low ba X = 2 ↔ passB false te me low ba X = false ∧ passB true te me low ba X = false := by
  unfold stateL
  cases h : passB false te me low ba X <;> cases k : passB true te me low ba X <;> simp

theorem state_bd (te me low ba : Int) (X : List (Int × Int)) : stateL te me low ba X = 1 ∨ stateL te me low ba X = 2 ∨ stateL te me low ba X = 3 := by
  unfold stateL
  split
  · exact .inl rfl
  · split
    · exact .inr (.inr rfl)
    · exact .inr (.inl rfl)

/-- What is sure is so in the end. -/
theorem state_in {te me low ba : Int} {X : List (Int × Int)} {T : List Int} (h : Within X (diag T)) (hx : stateL te me low ba X ≠ 3) : (stateL te me low ba X = 1 ↔ passB false te me low ba (diag T) = true) := by
  constructor
  · intro h1
    exact within_lo h (state_one.1 h1)
  · intro hp
    rcases state_bd te me low ba X with h1 | h2 | h3
    · exact h1
    · have h4 := (state_two.1 h2).2
      rw [← diag_pass true] at hp
      rw [within_hi h hp] at h4
      cases h4
    · exact absurd h3 hx

/-- It stays so. -/
theorem state_up {te me low ba : Int} {X Y : List (Int × Int)} {T : List Int} (h : Within X Y) (k : Within Y (diag T)) (hx : stateL te me low ba X ≠ 3) : stateL te me low ba Y = stateL te me low ba X := by
  rcases state_bd te me low ba X with h1 | h2 | h3
  · rw [h1, state_one]
    exact within_lo h (state_one.1 h1)
  · rw [h2, state_two]
    have h4 := (state_two.1 h2).2
    have h5 : passB true te me low ba Y = false := by
      cases h6 : passB true te me low ba Y with
      | false => rfl
      | true =>
        rw [within_hi h h6] at h4
        cases h4
    refine ⟨?_, h5⟩
    cases h6 : passB false te me low ba Y with
    | false => rfl
    | true =>
      have h7 := within_lo k h6
      rw [← diag_pass true] at h7
      rw [within_hi k h7] at h5
      cases h5
  · exact absurd h3 hx

theorem state_diag (te me low ba : Int) (T : List Int) : stateL te me low ba (diag T) ≠ 3 := by
  unfold stateL
  rw [diag_pass true]
  split
  · decide
  · decide

/-- A test of a lot: what is true, and what the gauge is wrong by. -/
structure V2 where
  a : Int
  b : Int

def encV2 (v : V2) : List Value := [.int .u8 v.a, .int .u8 v.b]

abbrev Row2 := RowOf 2 encV2

def B2 (v : V2) : Prop := (0 ≤ v.a ∧ v.a ≤ 255) ∧ (0 ≤ v.b ∧ v.b ≤ 255)

theorem Row2.get {w : World} {a : Option Addr} {l : List V2} (h : Row2 w a l) {j : Nat} {x : V2} (hx : l[j]? = some x) :
    ∃ b o, a = some ⟨b, o, none⟩ ∧ b < w.heap.size ∧ w.cell? ⟨b, o + j * 2, none⟩ = some (.int .u8 x.a) ∧ w.cell? ⟨b, o + j * 2 + 1, none⟩ = some (.int .u8 x.b) := by
  obtain ⟨b, o, ha, hb, hc⟩ := h.2 j x hx
  exact ⟨b, o, ha, hb, hc 0 _ rfl, hc 1 _ rfl⟩

def lotT (T : List V2) (i : Nat) : V2 := match T[i]? with
  | some v => v
  | none => ⟨100, 0⟩

theorem lotT_bd {T : List V2} (h : ∀ v ∈ T, B2 v) (i : Nat) : B2 (lotT T i) := by
  unfold lotT
  split
  · rename_i v hv
    exact h v (List.mem_of_getElem? hv)
  · exact ⟨⟨by decide, by decide⟩, ⟨by decide, by decide⟩⟩

def lotA (T : List V2) (i : Nat) : Int := (lotT T i).a

def lotR (T : List V2) (off : Int) (i : Nat) : Int := max 0 ((lotT T i).a + (lotT T i).b % (2 * off + 1) - off)

def lotTru (T : List V2) (n : Nat) : List Int := (List.range n).map (lotA T)

def lotRea (T : List V2) (off : Int) (n : Nat) : List Int := (List.range n).map (lotR T off)

theorem lotTru_len (T : List V2) (n : Nat) : (lotTru T n).length = n := by simp [lotTru]

theorem lotRea_len (T : List V2) (off : Int) (n : Nat) : (lotRea T off n).length = n := by simp [lotRea]

theorem lotTru_succ (T : List V2) (n : Nat) : lotTru T (n + 1) = lotTru T n ++ [lotA T n] := by simp [lotTru, List.range_succ]

theorem lotRea_succ (T : List V2) (off : Int) (n : Nat) : lotRea T off (n + 1) = lotRea T off n ++ [lotR T off n] := by simp [lotRea, List.range_succ]

theorem lotA_bd {T : List V2} (h : ∀ v ∈ T, B2 v) (i : Nat) : 0 ≤ lotA T i ∧ lotA T i ≤ 255 := (lotT_bd h i).1

theorem lotR_bd {T : List V2} (h : ∀ v ∈ T, B2 v) {off : Int} (o0 : 0 ≤ off) (o1 : off ≤ 39) (i : Nat) : (0 ≤ lotR T off i ∧ lotR T off i ≤ 294) ∧ lotR T off i - off ≤ lotA T i ∧ lotA T i ≤ lotR T off i + off := by
  obtain ⟨⟨a0, a1⟩, b0, b1⟩ := lotT_bd h i
  have m0 := Int.emod_nonneg (lotT T i).b (b := 2 * off + 1) (by omega)
  have m1 := Int.emod_lt_of_pos (lotT T i).b (b := 2 * off + 1) (by omega)
  unfold lotR lotA
  omega

theorem lotRea_take {T : List V2} {off : Int} {n k i : Nat} (hi : i < n) : ((lotRea T off n).take k)[i]? = if i < k then some (lotR T off i) else none := by
  rw [List.getElem?_take]
  simp [lotRea, hi]

theorem lotRea_mem {T : List V2} (h : ∀ v ∈ T, B2 v) {off : Int} (o0 : 0 ≤ off) (o1 : off ≤ 39) {n : Nat} {r : Int} (hr : r ∈ lotRea T off n) : 0 ≤ r ∧ r ≤ 294 := by
  simp only [lotRea, List.mem_map, List.mem_range] at hr
  obtain ⟨i, _, rfl⟩ := hr
  exact (lotR_bd h o0 o1 i).1

theorem lotTru_mem {T : List V2} (h : ∀ v ∈ T, B2 v) {n : Nat} {r : Int} (hr : r ∈ lotTru T n) : 0 ≤ r ∧ r ≤ 255 := by
  simp only [lotTru, List.mem_map, List.mem_range] at hr
  obtain ⟨i, _, rfl⟩ := hr
  exact lotA_bd h i

theorem diag_tru (T : List V2) (n : Nat) : diag (lotTru T n) = (List.range n).map (fun i => (lotA T i, lotA T i)) := by
  simp [diag, lotTru, Function.comp_def]

theorem tru_within {T : List V2} (h : ∀ v ∈ T, B2 v) {off : Int} (o0 : 0 ≤ off) (o1 : off ≤ 39) (n k : Nat) : Within (truthsL n off ((lotRea T off n).take k)) (diag (lotTru T n)) := by
  rw [diag_tru]
  refine within_map _ (fun i hi => ?_)
  rw [List.mem_range] at hi
  have h1 := lotR_bd h o0 o1 i
  have h2 := lotA_bd h i
  unfold truthAt
  rw [lotRea_take hi]
  by_cases hk : i < k
  · rw [if_pos hk]
    dsimp only
    omega
  · rw [if_neg hk]
    dsimp only
    omega

theorem take_within (n : Nat) (off : Int) (L : List Int) (k : Nat) : Within (truthsL n off (L.take k)) (truthsL n off (L.take (k + 1))) := by
  refine within_map _ (fun i hi => ?_)
  unfold truthAt
  rw [List.getElem?_take, List.getElem?_take]
  by_cases hk : i < k
  · rw [if_pos hk, if_pos (by omega)]
    exact ⟨Int.le_refl _, Int.le_refl _⟩
  · rw [if_neg hk]
    dsimp only
    split <;> dsimp only <;> omega

theorem exact_diag {T : List V2} (h : ∀ v ∈ T, B2 v) (n : Nat) : truthsL n 0 (lotTru T n) = diag (lotTru T n) := by
  rw [diag_tru]
  unfold truthsL
  refine List.map_congr_left (fun i hi => ?_)
  rw [List.mem_range] at hi
  have h2 := lotA_bd h i
  unfold truthAt
  rw [show (lotTru T n)[i]? = some (lotA T i) by simp [lotTru, hi]]
  dsimp only
  rw [Int.max_eq_right (by omega), Int.min_eq_right (by omega)]
  simp

theorem lot_rule {n : Nat} {me lo ba off : Int} {l : List Int} (n1 : 1 ≤ n) (n2 : n ≤ 20) (m0 : 0 ≤ me) (m1 : me ≤ 100000) (l0 : 0 ≤ lo) (l1 : lo ≤ 100000) (b0 : 0 ≤ ba) (b1 : ba ≤ (n : Int)) (o0 : 0 ≤ off) (o1 : off ≤ 1000) (hl : l.length ≤ n) (hB : ∀ r ∈ l, 0 ≤ r ∧ r ≤ 100000) : ruleL (n : Int) me lo ba off l = 0 := by
  have h1 : ruleOk (n : Int) me lo ba = true := by
    simp [ruleOk, inB, in1]
    omega
  have h2 : inB 0 1000 [off] = true := by
    simp [inB, in1]
    omega
  have h3 : ¬ (n : Int) < (l.length : Int) := by omega
  have h4 : inB 0 100000 l = true := by
    simp only [inB, List.all_eq_true]
    intro r hr
    have := hB r hr
    simp [in1]
    omega
  unfold ruleL
  rw [if_neg (by rw [h1]; decide), if_neg (by rw [h2]; decide), if_neg h3, if_neg (by rw [h4]; decide)]

end Go.Proofs.Ytjdeojpapdphoaa

namespace Go.Proofs.Ytjdeojpapdphoaa
set_option linter.unusedVariables false
set_option linter.unusedSimpArgs false
open Go.RowKit

/-- A box in bytes. -/
structure V4 where
  a : Int
  b : Int
  c : Int
  d : Int

def encV4 (v : V4) : List Value := [.int .u8 v.a, .int .u8 v.b, .int .u8 v.c, .int .u8 v.d]

abbrev Row4 := RowOf 4 encV4

def B4 (v : V4) : Prop := (0 ≤ v.a ∧ v.a ≤ 255) ∧ (0 ≤ v.b ∧ v.b ≤ 255) ∧ (0 ≤ v.c ∧ v.c ≤ 255) ∧ (0 ≤ v.d ∧ v.d ≤ 255)

theorem Row4.get {w : World} {a : Option Addr} {l : List V4} (h : Row4 w a l) {j : Nat} {x : V4} (hx : l[j]? = some x) :
    ∃ b o, a = some ⟨b, o, none⟩ ∧ b < w.heap.size ∧ w.cell? ⟨b, o + j * 4, none⟩ = some (.int .u8 x.a) ∧ w.cell? ⟨b, o + j * 4 + 1, none⟩ = some (.int .u8 x.b) ∧ w.cell? ⟨b, o + j * 4 + 2, none⟩ = some (.int .u8 x.c) ∧ w.cell? ⟨b, o + j * 4 + 3, none⟩ = some (.int .u8 x.d) := by
  obtain ⟨b, o, ha, hb, hc⟩ := h.2 j x hx
  exact ⟨b, o, ha, hb, hc 0 _ rfl, hc 1 _ rfl, hc 2 _ rfl, hc 3 _ rfl⟩

def boxW (v : V4) : Ld := ⟨4 * v.a, 4 * v.a + v.b % 50, v.c, v.c + v.d % 30⟩

def boxesW (X : List V4) (n : Nat) : List Ld := (X.take n).map boxW

theorem boxesW_len {X : List V4} {n : Nat} (h : n ≤ X.length) : (boxesW X n).length = n := by simp [boxesW]; omega

theorem boxesW_succ {X : List V4} {n : Nat} {x : V4} (h : X[n]? = some x) : boxesW X (n + 1) = boxesW X n ++ [boxW x] := by
  unfold boxesW
  rw [List.take_add_one, h, Option.toList_some, List.map_append]
  rfl

theorem boxW_bd {v : V4} (h : B4 v) : LdOk (boxW v) ∧ (boxW v).sl ≤ (boxW v).sh ∧ (boxW v).wl ≤ (boxW v).wh ∧ (boxW v).sh ≤ 1069 ∧ (boxW v).wh ≤ 284 := by
  obtain ⟨⟨a0, a1⟩, ⟨b0, b1⟩, ⟨c0, c1⟩, d0, d1⟩ := h
  unfold boxW LdOk LdB
  dsimp only
  omega

theorem boxesW_mem {X : List V4} {n : Nat} (hX : ∀ v ∈ X, B4 v) {x : Ld} (hx : x ∈ boxesW X n) : LdOk x ∧ x.sl ≤ x.sh ∧ x.wl ≤ x.wh ∧ x.sh ≤ 1069 ∧ x.wh ≤ 284 := by
  simp only [boxesW, List.mem_map] at hx
  obtain ⟨v, hv, rfl⟩ := hx
  exact boxW_bd (hX v (List.mem_of_mem_take hv))

/-- The steps of the table. -/
def nextW (s : Stp) (v : V2) : Stp := ⟨s.day + 1 + v.a % 60, s.keep * (255 - v.b / 3) / 255⟩

def stepW (S : List V2) : Nat → Stp
  | 0 => ⟨0, 1000⟩
  | k + 1 => nextW (stepW S k) (lotT S k)

def tabW (S : List V2) (n : Nat) : List Stp := (List.range (n + 1)).map (stepW S)

theorem tabW_len (S : List V2) (n : Nat) : (tabW S n).length = n + 1 := by simp [tabW]

theorem tabW_succ (S : List V2) (n : Nat) : tabW S (n + 1) = tabW S n ++ [stepW S (n + 1)] := by simp [tabW, List.range_succ]

theorem tabW_at {S : List V2} {n k : Nat} (h : k ≤ n) : (tabW S n)[k]? = some (stepW S k) := by
  unfold tabW
  rw [List.getElem?_map, List.getElem?_range (by omega)]
  rfl

theorem nextW_bd {s : Stp} {v : V2} (h : B2 v) (k0 : 0 ≤ s.keep) : s.day + 1 ≤ (nextW s v).day ∧ (nextW s v).day ≤ s.day + 60 ∧ 0 ≤ (nextW s v).keep ∧ (nextW s v).keep ≤ s.keep := by
  obtain ⟨⟨a0, a1⟩, b0, b1⟩ := h
  unfold nextW
  dsimp only
  have h1 : 0 ≤ s.keep * (255 - v.b / 3) := Int.mul_nonneg k0 (by omega)
  have h2 : s.keep * (255 - v.b / 3) ≤ s.keep * 255 := Int.mul_le_mul_of_nonneg_left (by omega) k0
  omega

theorem stepW_bd {S : List V2} (h : ∀ v ∈ S, B2 v) : ∀ k : Nat, 0 ≤ (stepW S k).day ∧ (stepW S k).day ≤ 60 * (k : Int) ∧ 0 ≤ (stepW S k).keep ∧ (stepW S k).keep ≤ 1000
  | 0 => by simp [stepW]
  | k + 1 => by
    have ih := stepW_bd h k
    have h1 := nextW_bd (s := stepW S k) (lotT_bd h k) ih.2.2.1
    show 0 ≤ (nextW (stepW S k) (lotT S k)).day ∧ _
    simp only [stepW]
    omega

theorem stepW_next {S : List V2} (h : ∀ v ∈ S, B2 v) (k : Nat) : (stepW S k).day + 1 ≤ (stepW S (k + 1)).day ∧ (stepW S (k + 1)).keep ≤ (stepW S k).keep := by
  have h1 := nextW_bd (s := stepW S k) (lotT_bd h k) (stepW_bd h k).2.2.1
  exact ⟨h1.1, h1.2.2.2⟩

theorem chain_tab {S : List V2} (h : ∀ v ∈ S, B2 v) : ∀ (m i : Nat) (d kk : Int), i + m ≤ 7 → d + 1 ≤ (stepW S i).day → (stepW S i).keep ≤ kk → chainL d kk ((List.range' i m).map (stepW S)) = true
  | 0, _, _, _, _, _, _ => rfl
  | m + 1, i, d, kk, hi, hd, hk => by
    have hb := stepW_bd h i
    have hn := stepW_next h i
    have ih := chain_tab h m (i + 1) (stepW S i).day (stepW S i).keep (by omega) hn.1 hn.2
    rw [List.range'_succ, List.map_cons]
    unfold chainL
    rw [ih]
    simp [inB, in1]
    omega

theorem table_tab {S : List V2} (h : ∀ v ∈ S, B2 v) {n : Nat} (hn : n ≤ 6) : tableL (tabW S n) = true := by
  have hc := chain_tab h (n + 1) 0 (-1) 1000 (by omega) (by simp [stepW]) (by simp [stepW])
  have e : tabW S n = (List.range' 0 (n + 1)).map (stepW S) := by rw [tabW, List.range_eq_range']
  have e0 : tabW S n = stepW S 0 :: (List.range' 1 n).map (stepW S) := by rw [e, List.range'_succ, List.map_cons]
  have hl := tabW_len S n
  unfold tableL
  rw [hl, e, hc, ← e, e0]
  simp [inB, in1, stepW]
  omega

theorem pile_stored {X : List V4} {S : List V2} (hX : ∀ v ∈ X, B4 v) (hS : ∀ v ∈ S, B2 v) {m n : Nat} {most days : Int} (hm : (m : Int) ≤ most) (hmx : m ≤ X.length) (hn : n ≤ 6) (d0 : 0 ≤ days) (d1 : days ≤ 10000) : storedL most (boxesW X m) (tabW S n) days = 0 := by
  have h1 : boxedL most (boxesW X m) = 0 := by
    unfold boxedL
    rw [boxesW_len hmx, if_neg (by omega)]
    have : (boxesW X m).all okLd = true := by
      rw [List.all_eq_true]
      intro x hx
      obtain ⟨⟨⟨a, b, c, d⟩, e, f⟩, g, hh, i, j⟩ := boxesW_mem hX hx
      simp [okLd, okSpan, inB, in1]
      omega
    rw [this]
    rfl
  have h2 := table_tab hS hn
  unfold storedL
  rw [h1, h2]
  simp [inB, in1]
  omega

end Go.Proofs.Ytjdeojpapdphoaa

namespace Go.Proofs.Ytjdeojpapdphoaa
set_option linter.unusedVariables false
set_option linter.unusedSimpArgs false
open Go.RowKit

theorem owns_zero {w : World} {base : Nat} {e : TypeId} {size : Nat} {v : Value} {n : Nat} {xs : List Value} (h : w.ownsRow base e size v n xs) : w.ownsRow 0 e size v n xs := by
  obtain ⟨h1, h2⟩ := h
  refine ⟨h1, ?_⟩
  rcases h2 with h2 | ⟨g, cap, cur, hv, _, h3⟩
  · exact .inl h2
  · exact .inr ⟨g, cap, cur, hv, Nat.zero_le _, h3⟩

/-- Two rows that do not lie in one block. -/
def Apart (v u : Value) : Prop := ∀ b, v.ownBlock = some b → u.ownBlock ≠ some b

theorem Apart.symm {v u : Value} (h : Apart v u) : Apart u v := fun b hb hv => h b hv hb

theorem wpList_append_sep {P : Program} (w : World) {ops : Array Oper} {rest : List Oper} {o : Oper} {a : Act} {Q : Exit → Act → World → Prop} (hgd : o.guard = none) (s x : Operand) (t : TypeId)
    (ho : o.op = .call { callee := .builtin .append, args := #[s, x], argTypes := #[t, t] })
    (base : Nat) (e : TypeId) (i : TypeInfo) (z : Value) (size bytes : Nat) (ht : P.underlying t = some (.slice e)) (hi : P.info? e = some i) (hz : i.zero = some z)
    (hsize : i.size = size) (hby : i.bytes = bytes) (hzs : z.cells.size = size) (hsz : 0 < size)
    (v : Value) (n : Nat) (xs : List Value) (hs : a.eval s = v) (hown : w.ownsRow base e size v n xs)
    (ad : Addr) (m c : Nat) (news : List Value) (hx : a.eval x = .slice (some ad) m c) (hl : news.length = m * size) (hnews : ∀ j u, news[j]? = some u → w.cell? (ad.add j) = some u) (h1 : ∀ u ∈ news, u.oneCell' = true)
    (h63 : n + m ≤ maxLen) (hbytes : (n + m) * bytes ≤ 140737488355328) (hbase : base ≤ w.heap.size)
    (u : Value) (k : Nat) (ys : List Value) (hu : w.ownsRow base e size u k ys) (hap : Apart v u)
    (h : ∀ v' w', w'.ownsRow base e size v' (n + m) (xs ++ news) → w.grownBy w' v.ownBlock → w'.ownsRow base e size u k ys → Apart v' u → wpList P ops Q rest (a.put o.dst v') w') : wpList P ops Q (o :: rest) a w := by
  refine wpList_plain hgd fun _ hK => ?_
  obtain ⟨v', w', hr, h2, h3, h4⟩ := run_append_own (P := P) w base t o.type e i z size bytes ht hi hz hsize hby hzs hsz v n xs hown ad m c news hl hnews h1 h63 hbytes hbase
  obtain ⟨v'', w'', hr', _, _, h5⟩ := run_append_new (P := P) w t o.type e i z size bytes ht hi hz hsize hby hzs hsz v n xs (owns_zero hown) ad m c news hl hnews h1 h63 hbytes
  rw [hr] at hr'
  injection hr' with e1 e2
  subst e1
  subst e2
  have hku : w'.ownsRow base e size u k ys := hu.kept h3 (by
    cases hub : u.ownBlock with
    | none => exact .inl rfl
    | some b => exact .inr (fun he => hap b he.symm hub))
  have hap' : Apart v' u := fun b hb hub => by
    rcases (h5 b hb).2 with h6 | h6
    · exact hap b h6 hub
    · have := (hu.lt b hub).2
      omega
  unfold Oper.wp execOp
  simp only [ho, resolve, invoke, builtin, Sem.run_bind, Sem.run_pure, Result.andThen_ok, List.map_toArray, List.map_cons, List.map_nil, hs, hx, hr]
  exact hK _ _ (h v' w' h2 h3 hku hap')

theorem Apart.lit {g k : Nat} {n m c d : Nat} (h : g ≠ k) : Apart (.slice (some ⟨g, 0, none⟩) n c) (.slice (some ⟨k, 0, none⟩) m d) := by
  intro b hb hc
  simp only [Value.ownBlock, Option.some.injEq] at hb hc
  omega

end Go.Proofs.Ytjdeojpapdphoaa

namespace Go.Proofs.Ytjdeojpapdphoaa
set_option linter.unusedVariables false
set_option linter.unusedSimpArgs false
open Go.RowKit

theorem owns_row_cap {α : Type} {enc : α → List Value} {sz : Nat} {w : World} {base : Nat} {e : TypeId} {v : Value} {l : List α} (he : ∀ x, (enc x).length = sz) (hl : l.length ≤ 9223372036854775807) (h : w.ownsRow base e sz v l.length (l.flatMap enc)) :
    ∃ a cap, v = .slice a l.length cap ∧ RowOf sz enc w a l ∧ (a = none → cap = 0) ∧ l.length ≤ cap := by
  obtain ⟨a, cap, hv, hr⟩ := owns_row he hl h
  refine ⟨a, cap, hv, hr, ?_⟩
  rcases h.2 with ⟨hv2, hn⟩ | ⟨b, cap2, cur, hv2, _, _, hc, _⟩
  · rw [hv2] at hv
    injection hv with e1 e2 e3
    exact ⟨fun _ => e3.symm, by omega⟩
  · rw [hv2] at hv
    injection hv with e1 e2 e3
    subst e1
    subst e3
    exact ⟨fun h => (by cases h), hc⟩

set_option maxHeartbeats 400000 in
theorem lints_any (l : List Int) (hl : l.length ≤ 1000) (b off cap : Nat) (w : World) (hr : IRow w (some ⟨b, off, none⟩) l) :
    Calls Try.prog 17 #[.slice (some ⟨b, off, none⟩) l.length cap] w fun e w' => ∃ a' cap', e = .returned (.slice a' l.length cap') ∧ IRow w' a' l ∧ (a' = none → cap' = 0) ∧ l.length ≤ cap' ∧ Gr w w' := by
  obtain ⟨i0, hi, hz0, hz1, hz2⟩ := info_parts infoInt
  have hr1 := hr.grow (Gr.al w (.cells #[] 3))
  have h1 : 0 + l.length ≤ maxLen := by unfold maxLen; omega
  have h2 : (0 + l.length) * 8 ≤ 140737488355328 := by omega
  have hfl := flat_len (enc := encI) (sz := 1) (fun _ => rfl) l
  have hnews := row_news (enc := encI) (sz := 1) (fun _ => rfl) hr1
  have Hfl := Lib.hid hfl
  have Hnews := Lib.hid hnews
  clear hfl hnews
  go_enter Try.func17, Try.ntmps17
  go_wp2_with (at_builtin; refine wpList_append_own _ rfl _ _ 24 rfl w.heap.size 3 i0 (.int .i64 0) 1 8 Try.underlying24 hi hz0 hz1 hz2 rfl (by decide) _ _ _ rfl (owns_empty w _ _) ⟨b, off, none⟩ l.length cap (l.flatMap encI) rfl Hfl.out Hnews.out (one_flat (fun x u hu => by simp [encI] at hu; subst hu; rfl) l) h1 h2 (by simp) ?_; intro v' w1 hown hgrow _)
  obtain ⟨a', cap', hv, hr2, hn2, hc2⟩ := owns_row_cap (enc := encI) (l := l) (fun _ => rfl) (by omega) (by simpa using hown)
  subst hv
  have Hr2 := Lib.hid hr2
  have Hn2 := Lib.hid hn2
  have Hc2 := Lib.hid hc2
  clear hr2 hn2 hown hc2
  go_wp2
  go_ret
  exact ⟨a', ⟨cap', rfl, Hr2.out, Hn2.out, Hc2.out, (Gr.al w _).grown' (owns_empty w _ 1) (Nat.le_refl _) hgrow⟩⟩

theorem diag_app (l : List Int) (x : Int) : diag (l ++ [x]) = diag l ++ [(x, x)] := by simp [diag]

theorem diag_bd {l : List Int} (hB : ∀ x ∈ l, 0 ≤ x ∧ x ≤ 100000) : ∀ x ∈ diag l, TrB x := by
  intro x hx
  simp only [diag, List.mem_map] at hx
  obtain ⟨t, ht, rfl⟩ := hx
  have := hB t ht
  exact ⟨this.1, this.2, this.1, this.2⟩

set_option maxRecDepth 100000 in
set_option maxHeartbeats 1000000 in
theorem lpasses_any (te me lo ba : Int) (l : List Int) (hl : l.length ≤ 1000) (hB : ∀ x ∈ l, 0 ≤ x ∧ x ≤ 100000) (t0 : 0 ≤ te) (t1 : te ≤ 1000) (m0 : 0 ≤ me) (m1 : me ≤ 100000) (a : Option Addr) (cap : Nat) (w : World) (hr : IRow w a l) :
    Calls Try.prog 50 #[.agg #[.int .i64 te, .int .i64 me, .int .i64 lo, .int .i64 ba], .slice a l.length cap] w fun e w' => e = .returned (.bool (passB false te me lo ba (diag l))) ∧ Gr w w' := by
  have gg := Gr.al w (.cells #[.int .i64 te, .int .i64 me, .int .i64 lo, .int .i64 ba] 23)
  have hb := Box.new w [.int .i64 te, .int .i64 me, .int .i64 lo, .int .i64 ba] 23 w.heap.size rfl
  have HB := Lib.hid hb
  have GG := Lib.hid gg
  have HR := Lib.hid (hr.grow gg)
  have q0 : 0 ≤ te * me := Int.mul_nonneg t0 m0
  have q1 : te * me ≤ 1000 * 100000 := Int.mul_le_mul t1 m1 m0 (by omega)
  clear hb gg hr
  go_enter Try.func50, Try.ntmps50
  go_upto_region 2 with fail
  refine wp_abs (fun W => Gr (w.alloc (.cells #[.int .i64 te, .int .i64 me, .int .i64 lo, .int .i64 ba] 23)) W) (Below.refl _ _) ?_
  intro W hW
  go_wp2
  go_loopw [7, 5, 6] (fun t s b wr => Hid (∃ k : Nat, k ≤ l.length ∧ t = .int .i64 k ∧ Gr (w.alloc (.cells #[.int .i64 te, .int .i64 me, .int .i64 lo, .int .i64 ba] 23)) wr ∧ s = .int .i64 (sumS false (diag (l.take k))) ∧ b = .int .i64 (badS false lo (diag (l.take k))))) (fun t _ _ _ => l.length - (intOf t).toNat)
  case atStart => exact Lib.hid ⟨0, Nat.zero_le _, rfl, hW, rfl, rfl⟩
  case round =>
    obtain ⟨k, hk, rfl, gW, rfl, rfl⟩ := hrel.out
    clear hrel
    obtain ⟨x0, x1⟩ := sumS_bd false (diag (l.take k)) (diag_bd (fun x hx => hB x (List.mem_of_mem_take hx)))
    have x2 := badS_0 false lo (diag (l.take k))
    have x3 := badS_len false lo (diag (l.take k))
    have x4 : (diag (l.take k)).length = min k l.length := by simp [diag]
    obtain ⟨p0, p1, p2, p3⟩ := (HB.out.keep gW).c4'
    by_cases hlt : k < l.length
    · obtain ⟨x, hx⟩ : ∃ x, l[k]? = some x := ⟨l[k], by simp [hlt]⟩
      obtain ⟨y0, y1⟩ := hB x (List.mem_of_getElem? hx)
      obtain ⟨b1, o1, rfl, h1, cc⟩ := IRow.get (HR.out.grow gW) hx
      have hs : sumS false (diag (l.take (k + 1))) = sumS false (diag (l.take k)) + x := by
        rw [List.take_add_one, hx, Option.toList_some, diag_app, sumS_app]
        simp
      have hd : badS false lo (diag (l.take (k + 1))) = badS false lo (diag (l.take k)) + if x < lo then 1 else 0 := by
        rw [List.take_add_one, hx, Option.toList_some, diag_app, badS_app]
        simp
      rw [x4] at x1 x3
      have HS := Lib.hid hs
      have HD := Lib.hid hd
      generalize sumS false (diag (l.take k)) = S at *
      generalize badS false lo (diag (l.take k)) = B at *
      clear hs hd hx x4
      by_cases hlo : x < lo
      · go_upto_region 6 with fail
        go_quiet (fail)
        go_wp2
        go_roundw
        case rel => exact Lib.hid ⟨k + 1, by omega, by go_num, gW.drewN _, by rw [HS.out], by rw [HD.out, if_pos hlo]⟩
        case measure => simp [intOf]; omega
      · go_upto_region 6 with fail
        go_quiet (fail)
        go_wp2
        go_roundw
        case rel => exact Lib.hid ⟨k + 1, by omega, by go_num, gW.drewN _, by rw [HS.out], by rw [HD.out, if_neg hlo, Int.add_zero]⟩
        case measure => simp [intOf]; omega
    · obtain rfl : k = l.length := by omega
      rw [List.take_length] at *
      have E0 : passB false te me lo ba (diag l) = (decide (badS false lo (diag l) ≤ ba) && decide (te * me ≤ sumS false (diag l))) := rfl
      generalize sumS false (diag l) = S at *
      generalize badS false lo (diag l) = B at *
      by_cases hm : te * me ≤ S
      · have E := Lib.hid (E0.trans (show (decide (B ≤ ba) && decide (te * me ≤ S)) = decide (B ≤ ba) by simp [hm]))
        clear E0
        go_wp2
        go_ret
        exact ⟨ret_bool E.out.symm, GG.out.tr gW⟩
      · have E := Lib.hid (E0.trans (show (decide (B ≤ ba) && decide (te * me ≤ S)) = false by simp [hm]))
        have hm' : decide (te * me ≤ S) = false := by simpa using hm
        clear E0
        go_wp2
        go_ret
        exact ⟨ret_bool E.out.symm, GG.out.tr gW⟩

end Go.Proofs.Ytjdeojpapdphoaa

namespace Go.Proofs.Ytjdeojpapdphoaa
set_option linter.unusedVariables false
set_option linter.unusedSimpArgs false
open Go.RowKit

/-- The worlds of which F holds. -/
structure AtW (F : World → Prop) where
  val : World
  property : F val

theorem sem_value {P : Program} {w w' : World} {m : Sem Value} {n : Next} (h : (m >>= fun x => pure (Next.value x) : Sem Next).run P w = .ok n w') : ∃ v, n = .value v := by
  cases hm : m.run P w with
  | ok x w1 =>
    simp [hm, go_sem] at h
    exact ⟨_, h.1.symm⟩
  | halt x w1 => simp [hm, go_sem] at h

def plainB (o : Oper) : Bool := match o.op with
  | .move _ | .assign _ | .build _ _ | .load _ _ | .binOp _ _ _ _ _ | .unOp _ _ _ | .convert _ _ _ | .fieldAddr _ _ _ | .field _ _ _ | .indexAddr _ _ _ | .index _ _ _ | .extract _ _ => true
  | _ => false

theorem plain_value {P : Program} {ρ : Operand → Value} {o : Oper} (hp : plainB o = true) {w w' : World} {n : Next} (h : (execOp ρ o).run P w = .ok n w') : ∃ v, n = .value v := by
  unfold plainB at hp
  unfold execOp at h
  split at hp <;> rename_i e <;> try (rw [e] at h; exact sem_value h)
  · rw [e] at h
    simp [go_sem] at h
    exact ⟨_, h.1.symm⟩
  · rw [e] at h
    simp [go_sem] at h
    exact ⟨_, h.1.symm⟩
  · cases hp

section
variable {P : Program} {ops : Array Oper} {Q : Exit → Act → World → Prop} {S : World → Prop}

theorem ord_of_quiet {L : Act → World → Prop} {Q0 : Act → Prop} {r : List (Nat × Bool)} (hQ : ∀ d v c a w, Q (.panic c) (Act.put a d v) w → Q (.panic c) a w) (w : World) :
    ∀ (l : List Oper) (j : Nat) (a : Act), (∀ k o, l[k]? = some o → ops[j + k]? = some o) → l.all plainB = true → wpQuiet P ops S Q0 l a → (∀ a', Q0 a' → wpOrd P ops Q S L r a' w) →
      wpOrd P ops Q S L ((List.range' j l.length).map (fun i => (i, true)) ++ r) a w
  | [], j, a, _, _, h, hr => hr a h
  | o :: rest, j, a, hl, hp, h, hr => by
    simp only [List.all_cons, Bool.and_eq_true] at hp
    have ho : ops[j]? = some o := hl 0 o rfl
    have hl' : ∀ k o', rest[k]? = some o' → ops[j + 1 + k]? = some o' := fun k o' hk => by
      have := hl (k + 1) o' (by simpa using hk)
      rwa [show j + (k + 1) = j + 1 + k by omega] at this
    show ∃ o v, ops[j]? = some o ∧ YieldsIf P ops S o v a ∧ _ ∧ wpOrd P ops Q S L ((List.range' (j + 1) rest.length).map (fun i => (i, true)) ++ r) (a.put o.dst v) w
    unfold wpQuiet at h
    by_cases hw : Region.wanted o (yielded ops a.tmps) = true
    · rw [if_pos hw] at h
      obtain ⟨v, h1, h2⟩ := h
      refine ⟨o, v, ho, Or.inl ⟨hw, fun w1 hS => ?_⟩, fun c a w => hQ _ _ c a w, ord_of_quiet hQ w rest (j + 1) _ hl' hp.2 h2 hr⟩
      have h3 := h1 w1 hS
      unfold Oper.quietAt at h3
      cases hrun : (execOp a.eval o).run P w1 with
      | halt x w2 => rw [hrun] at h3; exact h3.elim
      | ok n w2 =>
        obtain ⟨u, rfl⟩ := plain_value hp.1 hrun
        rw [hrun] at h3
        obtain ⟨rfl, rfl⟩ := h3
        rfl
    · rw [if_neg hw] at h
      exact ⟨o, undef, ho, Or.inr ⟨by simpa using hw, rfl⟩, fun c a w => hQ _ _ c a w, ord_of_quiet hQ w rest (j + 1) _ hl' hp.2 h hr⟩

/-- A stretch of reads, walked as a quiet region is. -/
theorem ord_seg {lst : List Oper} {L : Act → World → Prop} {r : List (Nat × Bool)} {w : World} {a : Act} (j m : Nat) (hp : (decide (j + m ≤ lst.length) && ((lst.drop j).take m).all plainB) = true)
    (hQ : ∀ d v c a w, Q (.panic c) (Act.put a d v) w → Q (.panic c) a w) (h : wpQuiet P lst.toArray S (fun a' => wpOrd P lst.toArray Q S L r a' w) ((lst.drop j).take m) a) :
    wpOrd P lst.toArray Q S L ((List.range' j m).map (fun i => (i, true)) ++ r) a w := by
  simp only [Bool.and_eq_true, decide_eq_true_eq] at hp
  have hl : ((lst.drop j).take m).length = m := by simp; omega
  have := ord_of_quiet (Q := Q) (L := L) (r := r) hQ w ((lst.drop j).take m) j a (fun k o hk => by
    have hk' : k < m := by
      have := (List.getElem?_eq_some_iff.1 hk).1
      omega
    rw [List.getElem?_take_of_lt hk', List.getElem?_drop] at hk
    simpa using hk) hp.2 h (fun a' h' => h')
  rwa [hl] at this

theorem wp_region_reads {id : Nat} {a : Act} {w : World} {l : List Oper} (S : World → Prop) (n : Nat) (hm : P.follows .mixedOrders = true)
    (hB : (Region.noSelect l.toArray && decide (n + 1 < l.toArray.size) && Region.sinkB .any l.toArray (n + 1) && Region.chainB .any l.toArray (n + 1) && (l.take n).all plainB && ordB .any l.toArray (n + 1) ((List.range' 0 n).map (fun i => (i, true)) ++ [(n, false)]) (Array.replicate l.toArray.size false)) = true)
    (hQ : ∀ d v c a w, Q (.panic c) (Act.put a d v) w → Q (.panic c) a w)
    (hS : S w.drew) (h : wpQuiet P l.toArray S (fun a' => wpOp P l.toArray Q n (fun a' w' => S w' ∧ wpList P l.toArray Q (l.drop (n + 1)) a' w') a' w.drew) (l.take n) a) : (Code.region id l.toArray true).wp P Q a w := by
  simp only [Bool.and_eq_true, decide_eq_true_eq] at hB
  obtain ⟨⟨⟨⟨⟨hsel, hn⟩, hs⟩, hc⟩, hpl⟩, hord⟩ := hB
  have hn' : n + 1 < l.length := by simpa using hn
  have hlen : (l.take n).length = n := by simp; omega
  refine wp_region_ord S (n + 1) ((List.range' 0 n).map (fun i => (i, true)) ++ [(n, false)]) hm (by simp only [Bool.and_eq_true, decide_eq_true_eq]; exact ⟨⟨⟨⟨⟨hsel, hn⟩, hs⟩, hc⟩, by simp⟩, hord⟩) hS ?_
  have := ord_of_quiet (Q := Q) (L := fun a' w' => wpList P l.toArray Q (l.drop (n + 1)) a' w') (r := [(n, false)]) hQ w.drew (l.take n) 0 a (fun k o hk => by
    rw [Nat.zero_add]
    have hk' : k < n := by
      have := (List.getElem?_eq_some_iff.1 hk).1
      omega
    simpa [List.getElem?_take, hk'] using hk) hpl h (fun a' h' => h')
  rwa [hlen] at this

end

end Go.Proofs.Ytjdeojpapdphoaa

namespace Go.Proofs.Ytjdeojpapdphoaa
set_option linter.unusedVariables false
set_option linter.unusedSimpArgs false
open Go.RowKit

theorem infoSt2 : (Try.prog.info? 136).map (fun i => (i.zero, i.size, i.bytes)) = some (some (.agg #[.int .i64 0, .int .i64 0]), 2, 16) := by kernel_rfl

theorem alloc_at (W : World) (o : Obj) {n : Nat} (h : n = W.heap.size) : (W.alloc o).heap[n]? = some o := by
  subst h
  show (Array.push W.heap o)[_]? = _
  simp

/-- A pile is handed back: so many boxes, and a table. -/
def PilePost (X : List V4) (S : List V2) (m n : Nat) (w : World) (e : Ending) (w' : World) : Prop :=
  ∃ b c d f, e = .returned (.tuple #[.slice (some ⟨b, 0, none⟩) m c, .slice (some ⟨d, 0, none⟩) (n + 1) f]) ∧ LRow w' (some ⟨b, 0, none⟩) (boxesW X m) ∧ TRow w' (some ⟨d, 0, none⟩) (tabW S n) ∧ m ≤ c ∧ n + 1 ≤ f ∧ Gr w w'

def StepHeld (b xb sb so : Nat) (day keep : Int) (sv : Value) (va vb : Int) (u : World) : Prop := u.cell? ⟨b, 0, none⟩ = some (.int .i64 day) ∧ u.cell? ⟨b, 1, none⟩ = some (.int .i64 keep) ∧ u.cell? ⟨xb, 1, none⟩ = some sv ∧ u.cell? ⟨sb, so, none⟩ = some (.int .u8 va) ∧ u.cell? ⟨sb, so + 1, none⟩ = some (.int .u8 vb)

set_option maxRecDepth 100000 in
set_option maxHeartbeats 8000000 in
theorem pile_any (X : List V4) (S : List V2) (most m n : Nat) (hX : ∀ v ∈ X, B4 v) (hS : ∀ v ∈ S, B2 v) (hm : min X.length most = m) (hm2 : most ≤ 50) (hn : min S.length 6 = n) (xa sa : Option Addr) (xc sc : Nat) (w : World) (rx : Row4 w xa X) (rs : Row2 w sa S) :
    Calls Try.prog 52 #[.agg #[.slice xa X.length xc, .slice sa S.length sc], .int .i64 (most : Int)] w (PilePost X S m n w) := by
  have gg := Gr.al w (.cells #[.slice xa X.length xc, .slice sa S.length sc] 105)
  have hx := Box.new w [.slice xa X.length xc, .slice sa S.length sc] 105 w.heap.size rfl
  have HX := Lib.hid hX
  have HS := Lib.hid hS
  clear hX hS
  go_enter Try.func52, Try.ntmps52

  go_upto_region 1 with fail
  refine wp_abs (fun U => Gr w U ∧ Box U w.heap.size [.slice xa X.length xc, .slice sa S.length sc]) ⟨gg, hx⟩ ?_
  clear gg hx
  rintro U ⟨gg, hx⟩
  obtain ⟨p0, p1⟩ := hx.c2
  go_upto_region 2 with fail
  have oA := owns_keep (owns_empty U 70 4) (Gr.al _ (.cells #[.int .i64 0, .int .i64 1000] 136))
  have oK : ((U.alloc (.cells #[] 70)).alloc (.cells #[.int .i64 0, .int .i64 1000] 136)).ownsRow U.heap.size 136 2 (.slice (some ⟨U.heap.size + 1, 0, none⟩) 1 1) 1 ((tabW S 0).flatMap encT) := ⟨rfl, .inr ⟨U.heap.size + 1, 1, #[.int .i64 0, .int .i64 1000], rfl, by omega, alloc_at _ _ (by simp), by omega, by decide, rfl, rfl⟩⟩
  have gU := (Gr.al U (.cells #[] 70)).tr (Gr.al _ (.cells #[.int .i64 0, .int .i64 1000] 136))
  obtain ⟨B0, hB0⟩ : ∃ B0, B0 = U.heap.size := ⟨_, rfl⟩
  have hB1 : U.heap.size ≤ B0 ∧ B0 ≤ U.heap.size := by omega
  rw [← hB0] at oA oK ⊢
  clear hB0 p0 p1
  obtain ⟨i0, hi, hz0, hz1, hz2⟩ := info_parts infoLd
  obtain ⟨i1, hj, hy0, hy1, hy2⟩ := info_parts infoSt2
  refine wp_abs (fun V => Gr U V ∧ V.ownsRow B0 70 4 (.slice (some ⟨B0, 0, none⟩) 0 0) 0 [] ∧ V.ownsRow B0 136 2 (.slice (some ⟨B0 + 1, 0, none⟩) 1 1) 1 ((tabW S 0).flatMap encT) ∧ B0 + 2 ≤ V.heap.size) ⟨gU, oA, oK, (by simp; omega)⟩ ?_
  clear gU oA oK
  rintro V ⟨gU, oA, oK, hsz⟩
  go_wp2
  go_loopw [8, 6] (fun i s wr => Hid (∃ k g cap : Nat, k ≤ m ∧ i = .int .i64 k ∧ s = .slice (some ⟨g, 0, none⟩) k cap ∧ g ≠ B0 + 1 ∧ Gr U wr ∧ B0 + 2 ≤ wr.heap.size ∧ wr.ownsRow B0 70 4 (.slice (some ⟨g, 0, none⟩) k cap) k ((boxesW X k).flatMap encL) ∧ wr.ownsRow B0 136 2 (.slice (some ⟨B0 + 1, 0, none⟩) 1 1) 1 ((tabW S 0).flatMap encT))) (fun i _ _ => m - (intOf i).toNat)
  case atStart => exact Lib.hid ⟨0, B0, 0, by omega, rfl, rfl, by omega, gU, hsz, (by simpa [boxesW] using oA), oK⟩
  case round =>
    clear gU oA oK hsz
    obtain ⟨k, g, cap, hk, rfl, rfl, hg, gW, hsz, oA, oK⟩ := hrel.out
    clear hrel
    by_cases hlt : k < m
    · have c1 : k < X.length := by omega
      have c2 : k < most := by omega
      obtain ⟨v, hv⟩ : ∃ v, X[k]? = some v := ⟨X[k], by simp [c1]⟩
      obtain ⟨⟨a0, a1⟩, ⟨b0, b1⟩, ⟨e0, e1⟩, d0, d1⟩ := HX.out v (List.mem_of_getElem? hv)
      obtain ⟨xb, xo, rfl, hxb, y0, y1, y2, y3⟩ := Row4.get (rx.grow (gg.tr gW)) hv
      obtain ⟨p0, p1⟩ := (hx.keep gW).c2
      have HB := Lib.hid (boxesW_succ hv)
      obtain ⟨va, vb, vc, vd⟩ := v
      dsimp only at a0 a1 b0 b1 e0 e1 d0 d1 y0 y1 y2 y3
      clear hv
      have w0 : IntKind.i64.wrap va = va := IntWalk.i64_in _ (by omega)
      have w1 : IntKind.i64.wrap vb = vb := IntWalk.i64_in _ (by omega)
      have w2 : IntKind.i64.wrap vc = vc := IntWalk.i64_in _ (by omega)
      have w3 : IntKind.i64.wrap vd = vd := IntWalk.i64_in _ (by omega)
      have w4 : IntKind.i64.wrap (4 * va) = 4 * va := IntWalk.i64_in _ (by omega)
      have z0 : vb.tmod 50 = vb % 50 := Int.tmod_eq_emod_of_nonneg b0
      have z1 : vd.tmod 30 = vd % 30 := Int.tmod_eq_emod_of_nonneg d0
      have w5 : IntKind.i64.wrap (vb % 50) = vb % 50 := IntWalk.i64_in _ (by omega)
      have w6 : IntKind.i64.wrap (vd % 30) = vd % 30 := IntWalk.i64_in _ (by omega)
      have w7 : IntKind.i64.wrap (4 * va + vb % 50) = 4 * va + vb % 50 := IntWalk.i64_in _ (by omega)
      have w8 : IntKind.i64.wrap (vc + vd % 30) = vc + vd % 30 := IntWalk.i64_in _ (by omega)
      have k1 : k + 1 ≤ maxLen := by unfold maxLen; omega
      have k2 : (k + 1) * 32 ≤ 140737488355328 := by omega
      go_upto_region 6 with fail
      refine wp_abs (fun Z => Gr wr Z ∧ Box Z wr.heap.size [.int .u8 va, .int .u8 vb, .int .u8 vc, .int .u8 vd]) ⟨Gr.al wr _, Box.new wr [.int .u8 va, .int .u8 vb, .int .u8 vc, .int .u8 vd] 80 wr.heap.size rfl⟩ ?_
      clear p0 p1 y0 y1 y2 y3
      rintro Z ⟨gZ, hb⟩
      obtain ⟨y0, y1, y2, y3⟩ := hb.c4
      go_wp2_with (first
        | (go_at_call 57; refine (load_any (4 * va) (4 * va + vb % 50) vc (vc + vd % 30) _).mono ?_; rintro e wl ⟨rfl, gl⟩; have gJ := gZ.tr gl)
        | (at_builtin; refine wpList_append_lies _ rfl _ _ 53 rfl B0 70 i0 _ 4 32 Try.underlying53 hi hz0 hz1 hz2 rfl (by decide) (.slice (some ⟨g, 0, none⟩) k cap) k _ rfl (owns_keep oA (gJ.tr (Gr.al wl (.cells #[.int .i64 (4 * va), .int .i64 (4 * va + vb % 50), .int .i64 vc, .int .i64 (vc + vd % 30)] 70)))) ⟨wl.heap.size, 0, none⟩ 1 1 ([4 * va, 4 * va + vb % 50, vc, vc + vd % 30].map (fun n => Value.int .i64 n)) rfl rfl (cell_news _ _ _) (ints_one _) (by omega) k1 k2 (by have := (gJ.tr (Gr.al wl (.cells #[.int .i64 (4 * va), .int .i64 (4 * va + vb % 50), .int .i64 vc, .int .i64 (vc + vd % 30)] 70))).size; omega) _ rfl ?_; intro g2 cap2 Y hA2 hgr hat hlt2))
      go_roundw
      case rel =>
        have gN := gJ.tr (Gr.al wl (.cells #[.int .i64 (4 * va), .int .i64 (4 * va + vb % 50), .int .i64 vc, .int .i64 (vc + vd % 30)] 70))
        have gY := (gW.tr gN).grown' (owns_keep oA gN) (by omega) hgr
        have hne : g2 ≠ B0 + 1 := by
          rcases hat with h | h
          · simp only [Value.ownBlock, Option.some.injEq] at h
            omega
          · have := gN.size
            omega
        have oK2 := (owns_keep oK gN).kept hgr (.inr (by simp only [Value.ownBlock, ne_eq, Option.some.injEq]; omega))
        exact Lib.hid ⟨k + 1, g2, cap2, by omega, by go_num, rfl, hne, gY, by have := hgr.size; have := gN.size; omega, (by rw [HB.out, flat_snoc]; exact hA2), oK2⟩
      case measure => simp [intOf]; omega
    · obtain rfl : m = k := by omega
      clear hlt hk
      obtain ⟨p0, p1⟩ := (hx.keep gW).c2
      by_cases c1 : m < X.length
      · have c2 : decide ((m : Int) < (most : Int)) = false := by simp; omega
        go_wp2
        go_loopw [10, 7] (fun i s wr => Hid (∃ k h cp : Nat, k ≤ n ∧ i = .int .i64 k ∧ s = .slice (some ⟨h, 0, none⟩) (k + 1) cp ∧ h ≠ g ∧ Gr U wr ∧ wr.ownsRow B0 70 4 (.slice (some ⟨g, 0, none⟩) m cap) m ((boxesW X m).flatMap encL) ∧ wr.ownsRow B0 136 2 (.slice (some ⟨h, 0, none⟩) (k + 1) cp) (k + 1) ((tabW S k).flatMap encT))) (fun i _ _ => n - (intOf i).toNat)
        case atStart => exact Lib.hid ⟨0, B0 + 1, 1, by omega, rfl, rfl, by omega, gW, oA, oK⟩
        case round =>
          clear gW oA oK hg hsz p0 p1
          obtain ⟨k, h, cp, hk, rfl, rfl, hg, gW, oA, oK⟩ := hrel.out
          clear hrel
          obtain ⟨p0, p1⟩ := (hx.keep gW).c2
          by_cases hlt : k < n
          · have c3 : k < S.length := by omega
            have c4 : decide ((k : Int) < 6) = true := by simp; omega
            obtain ⟨v, hv⟩ : ∃ v, S[k]? = some v := ⟨S[k], by simp [c3]⟩
            have hlt2 : lotT S k = v := by unfold lotT; rw [hv]
            obtain ⟨⟨a0, a1⟩, b0, b1⟩ := HS.out v (List.mem_of_getElem? hv)
            obtain ⟨sb, sof, rfl, hsb, v0, v1⟩ := Row2.get (rs.grow gg) hv
            have y0 := gW.keep v0
            have y1 := gW.keep v1
            obtain ⟨d0, d1, e0, e1⟩ := stepW_bd HS.out k
            obtain ⟨dy, kp, hst⟩ : ∃ d q, stepW S k = ⟨d, q⟩ := ⟨_, _, rfl⟩
            have hnx : stepW S (k + 1) = nextW (stepW S k) (lotT S k) := rfl
            rw [hst, hlt2] at hnx
            rw [hst] at d0 d1 e0 e1
            obtain ⟨va, vb⟩ := v
            dsimp only at a0 a1 b0 b1 v0 v1 y0 y1 d0 d1 e0 e1
            have hat0 := tabW_at (S := S) (Nat.le_refl k)
            rw [hst] at hat0
            obtain ⟨ra, rc, hva, tr⟩ := owns_row (enc := encT) (l := tabW S k) (fun _ => rfl) (by rw [tabW_len]; omega) (by rw [tabW_len]; exact oK)
            injection hva with f1 f2 f3
            subst f1
            obtain ⟨b2, o2, f4, _, u0, u1⟩ := TRow.get tr hat0
            injection f4 with f4
            injection f4 with f5 f6 _
            subst f5
            subst f6
            simp only [Nat.zero_add] at u0 u1
            have HN := Lib.hid hnx
            clear hv hlt2 hst hnx hat0 tr f2 f3
            have w0 : IntKind.i64.wrap va = va := IntWalk.i64_in _ (by omega)
            have w1 : IntKind.i64.wrap vb = vb := IntWalk.i64_in _ (by omega)
            have w2 : IntKind.i64.wrap ((k : Int) + 1 - 1) = (k : Int) := by rw [IntWalk.i64_in _ (by omega)]; omega
            have w2' : IntKind.i64.wrap (((k + 1 : Nat) : Int) - 1) = (k : Int) := by rw [IntWalk.i64_in _ (by omega)]; omega
            have w3 : IntKind.i64.wrap (dy + 1) = dy + 1 := IntWalk.i64_in _ (by omega)
            have z0 : va.tmod 60 = va % 60 := Int.tmod_eq_emod_of_nonneg a0
            have w4 : IntKind.i64.wrap (va % 60) = va % 60 := IntWalk.i64_in _ (by omega)
            have w5 : IntKind.i64.wrap (dy + 1 + va % 60) = dy + 1 + va % 60 := IntWalk.i64_in _ (by omega)
            have z1 : vb.tdiv 3 = vb / 3 := Int.tdiv_eq_ediv_of_nonneg b0
            have w6 : IntKind.i64.wrap (vb / 3) = vb / 3 := IntWalk.i64_in _ (by omega)
            have w7 : IntKind.i64.wrap (255 - vb / 3) = 255 - vb / 3 := IntWalk.i64_in _ (by omega)
            have m0 : 0 ≤ kp * (255 - vb / 3) := Int.mul_nonneg e0 (by omega)
            have m1 : kp * (255 - vb / 3) ≤ 1000 * 255 := Int.mul_le_mul e1 (by omega) (by omega) (by omega)
            have w8 : IntKind.i64.wrap (kp * (255 - vb / 3)) = kp * (255 - vb / 3) := IntWalk.i64_in _ (by omega)
            have z2 : (kp * (255 - vb / 3)).tdiv 255 = kp * (255 - vb / 3) / 255 := Int.tdiv_eq_ediv_of_nonneg m0
            have w9 : IntKind.i64.wrap (kp * (255 - vb / 3) / 255) = kp * (255 - vb / 3) / 255 := IntWalk.i64_in _ (by omega)
            have k1 : k + 1 + 1 ≤ maxLen := by unfold maxLen; omega
            have k2 : (k + 1 + 1) * 16 ≤ 140737488355328 := by omega
            go_upto_region 11 with fail
            refine wp_abs (fun Z => Gr wr Z ∧ Box Z wr.heap.size [.int .i64 dy, .int .i64 kp]) ⟨Gr.al wr _, Box.new wr [.int .i64 dy, .int .i64 kp] 136 wr.heap.size rfl⟩ ?_
            rintro Z ⟨gZ, hb⟩
            have hheld : ∀ W, Gr Z W → StepHeld wr.heap.size w.heap.size sb (sof + k * 2) dy kp (.slice (some ⟨sb, sof, none⟩) S.length sc) va vb W := fun W g => ⟨(hb.keep g).2 0 _ rfl, (hb.keep g).2 1 _ rfl, ((gZ.tr g)).keep p1, ((gZ.tr g)).keep y0, ((gZ.tr g)).keep y1⟩
            have hF := hheld _ (Gr.dr Z)
            haveI : Nonempty (AtW (StepHeld wr.heap.size w.heap.size sb (sof + k * 2) dy kp (.slice (some ⟨sb, sof, none⟩) S.length sc) va vb)) := ⟨⟨_, hF⟩⟩
            have x0_ : ∀ u : AtW (StepHeld wr.heap.size w.heap.size sb (sof + k * 2) dy kp (.slice (some ⟨sb, sof, none⟩) S.length sc) va vb), u.val.cell? ⟨wr.heap.size, 0, none⟩ = some (.int .i64 dy) := fun u => u.property.1
            have x1_ : ∀ u : AtW (StepHeld wr.heap.size w.heap.size sb (sof + k * 2) dy kp (.slice (some ⟨sb, sof, none⟩) S.length sc) va vb), u.val.cell? ⟨wr.heap.size, 1, none⟩ = some (.int .i64 kp) := fun u => u.property.2.1
            have x2_ : ∀ u : AtW (StepHeld wr.heap.size w.heap.size sb (sof + k * 2) dy kp (.slice (some ⟨sb, sof, none⟩) S.length sc) va vb), u.val.cell? ⟨w.heap.size, 1, none⟩ = some (.slice (some ⟨sb, sof, none⟩) S.length sc) := fun u => u.property.2.2.1
            have x3_ : ∀ u : AtW (StepHeld wr.heap.size w.heap.size sb (sof + k * 2) dy kp (.slice (some ⟨sb, sof, none⟩) S.length sc) va vb), u.val.cell? ⟨sb, sof + k * 2, none⟩ = some (.int .u8 va) := fun u => u.property.2.2.2.1
            have x4_ : ∀ u : AtW (StepHeld wr.heap.size w.heap.size sb (sof + k * 2) dy kp (.slice (some ⟨sb, sof, none⟩) S.length sc) va vb), u.val.cell? ⟨sb, sof + k * 2 + 1, none⟩ = some (.int .u8 vb) := fun u => u.property.2.2.2.2
            refine wp_region_ord (fun w' => ∃ u : AtW (StepHeld wr.heap.size w.heap.size sb (sof + k * 2) dy kp (.slice (some ⟨sb, sof, none⟩) S.length sc) va vb), w' = u.val) 29 ((List.range' 0 27).map (fun i => (i, true)) ++ [(27, false), (28, false)]) (by kernel_rfl) (by kernel_rfl) ⟨⟨_, hF⟩, rfl⟩ ?_
            refine ord_seg 0 27 (by kernel_rfl) (fun d _ _ _ _ h => by cases d <;> exact h) ?_
            simp only [List.drop_zero, List.take_succ_cons, List.take_zero]
            repeat (go_big_quiet_step (fail))
            refine wpQuiet_nil ?_
            clear x0_ x1_ x2_ x3_ x4_
            refine wpOp_step rfl (fun K' hK => ?_)
            go_simp
            have gB := (Gr.al Z (.cells #[.int .i64 (dy + 1 + va % 60), .int .i64 (kp * (255 - vb / 3) / 255)] 136)).tr (Gr.dr _)
            refine hK _ _ ⟨⟨⟨_, hheld _ gB⟩, rfl⟩, ?_⟩
            clear hK
            refine wpOp_step rfl (fun K' hK => ?_)
            refine step_append_lies _ (by rfl) _ _ 54 (by rfl) B0 136 i1 _ 2 16 Try.underlying54 hj hy0 hy1 hy2 rfl (by decide) (.slice (some ⟨h, 0, none⟩) (k + 1) cp) (k + 1) _ (by rfl) (owns_keep oK (gZ.tr gB)) ⟨Z.heap.size, 0, none⟩ 1 1 ([dy + 1 + va % 60, kp * (255 - vb / 3) / 255].map (fun n => Value.int .i64 n)) (by rfl) (by rfl) (cell_news _ _ _) (ints_one _) (by omega) k1 k2 ?_ _ rfl ?_
            · have := (gW.tr (gZ.tr gB)).size
              omega
            intro h2 cap4 W4 hR4 hgr4 hat4 hlt4
            have gY := (gW.tr (gZ.tr gB)).grown' (owns_keep oK (gZ.tr gB)) (by omega) hgr4
            have hbd := (oA.lt g rfl).2
            have hne : h2 ≠ g := by
              rcases hat4 with q | q
              · simp only [Value.ownBlock, Option.some.injEq] at q
                omega
              · have := (gZ.tr gB).size
                omega
            have oA2 := (owns_keep oA (gZ.tr gB)).kept hgr4 (.inr (by simp only [Value.ownBlock, ne_eq, Option.some.injEq]; omega))
            have hblk : ∀ q, (Value.slice (some ⟨h, 0, none⟩) (k + 1) cp).ownBlock = some q → q = h := fun q e => by simp only [Value.ownBlock, Option.some.injEq] at e; exact e.symm
            have hhB : B0 ≤ h := (oK.lt h rfl).1
            have hh2 : h < wr.heap.size := (oK.lt h rfl).2
            have hb4 := (hb.keep gB).grown hgr4 (fun r hr => by have := hblk r hr; omega)
            refine hK _ _ ⟨⟨⟨_, hb4.2 0 _ rfl, hb4.2 1 _ rfl, (hx.keep gY).2 1 _ rfl, gY.keep v0, gY.keep v1⟩, rfl⟩, ?_⟩
            clear hK hgr4 hat4 hb4
            show wpList _ _ _ (List.drop 29 _) _ _
            simp only [List.drop_succ_cons, List.drop_zero]
            clear w0 w1 w2 w2' w3 w4 w5 w6 w7 w8 w9 z0 z1 z2 m0 m1
            go_wp2
            go_roundw
            case rel =>
              have hR5 : W4.ownsRow B0 136 2 (.slice (some ⟨h2, 0, none⟩) (k + 1 + 1) cap4) (k + 1 + 1) ((tabW S (k + 1)).flatMap encT) := by
                rw [tabW_succ, HN.out, flat_snoc]
                exact hR4
              first | exact Lib.hid ⟨k + 1, h2, cap4, by omega, by go_num, rfl, hne, gY, oA2, hR5⟩ | exact Lib.hid ⟨k + 1, by omega, by go_num, h2, cap4, ⟨rfl, rfl, rfl⟩, hne, hR5⟩
            case measure => simp [intOf]; omega
          · obtain rfl : n = k := by omega
            clear hlt hk
            obtain ⟨ra, rc, hva, rA, _, hcA⟩ := owns_row_cap (enc := encL) (l := boxesW X m) (fun _ => rfl) (by rw [boxesW_len (by omega)]; omega) (by rw [boxesW_len (by omega)]; exact oA)
            obtain ⟨rb, rd, hvb, rK, _, hcK⟩ := owns_row_cap (enc := encT) (l := tabW S n) (fun _ => rfl) (by rw [tabW_len]; omega) (by rw [tabW_len]; exact oK)
            rw [boxesW_len (by omega)] at hva hcA
            rw [tabW_len] at hvb hcK
            injection hva with f1 f2 f3
            subst f1
            subst f3
            injection hvb with f4 f5 f6
            subst f4
            subst f6
            clear f2 f5 oA oK
            by_cases c3 : n < S.length
            · have c4 : decide ((n : Int) < 6) = false := by simp; omega
              go_wp2
              go_ret2
              exact ⟨g, cap, h, cp, rfl, rA, rK, hcA, hcK, gg.tr gW⟩
            · go_wp2
              go_ret2
              exact ⟨g, cap, h, cp, rfl, rA, rK, hcA, hcK, gg.tr gW⟩
      · have c1d : decide ((m : Int) < (X.length : Int)) = false := by simp; omega
        go_wp2
        go_loopw [10, 7] (fun i s wr => Hid (∃ k h cp : Nat, k ≤ n ∧ i = .int .i64 k ∧ s = .slice (some ⟨h, 0, none⟩) (k + 1) cp ∧ h ≠ g ∧ Gr U wr ∧ wr.ownsRow B0 70 4 (.slice (some ⟨g, 0, none⟩) m cap) m ((boxesW X m).flatMap encL) ∧ wr.ownsRow B0 136 2 (.slice (some ⟨h, 0, none⟩) (k + 1) cp) (k + 1) ((tabW S k).flatMap encT))) (fun i _ _ => n - (intOf i).toNat)
        case atStart => exact Lib.hid ⟨0, B0 + 1, 1, by omega, rfl, rfl, by omega, gW, oA, oK⟩
        case round =>
          clear gW oA oK hg hsz p0 p1
          obtain ⟨k, h, cp, hk, rfl, rfl, hg, gW, oA, oK⟩ := hrel.out
          clear hrel
          obtain ⟨p0, p1⟩ := (hx.keep gW).c2
          by_cases hlt : k < n
          · have c3 : k < S.length := by omega
            have c4 : decide ((k : Int) < 6) = true := by simp; omega
            obtain ⟨v, hv⟩ : ∃ v, S[k]? = some v := ⟨S[k], by simp [c3]⟩
            have hlt2 : lotT S k = v := by unfold lotT; rw [hv]
            obtain ⟨⟨a0, a1⟩, b0, b1⟩ := HS.out v (List.mem_of_getElem? hv)
            obtain ⟨sb, sof, rfl, hsb, v0, v1⟩ := Row2.get (rs.grow gg) hv
            have y0 := gW.keep v0
            have y1 := gW.keep v1
            obtain ⟨d0, d1, e0, e1⟩ := stepW_bd HS.out k
            obtain ⟨dy, kp, hst⟩ : ∃ d q, stepW S k = ⟨d, q⟩ := ⟨_, _, rfl⟩
            have hnx : stepW S (k + 1) = nextW (stepW S k) (lotT S k) := rfl
            rw [hst, hlt2] at hnx
            rw [hst] at d0 d1 e0 e1
            obtain ⟨va, vb⟩ := v
            dsimp only at a0 a1 b0 b1 v0 v1 y0 y1 d0 d1 e0 e1
            have hat0 := tabW_at (S := S) (Nat.le_refl k)
            rw [hst] at hat0
            obtain ⟨ra, rc, hva, tr⟩ := owns_row (enc := encT) (l := tabW S k) (fun _ => rfl) (by rw [tabW_len]; omega) (by rw [tabW_len]; exact oK)
            injection hva with f1 f2 f3
            subst f1
            obtain ⟨b2, o2, f4, _, u0, u1⟩ := TRow.get tr hat0
            injection f4 with f4
            injection f4 with f5 f6 _
            subst f5
            subst f6
            simp only [Nat.zero_add] at u0 u1
            have HN := Lib.hid hnx
            clear hv hlt2 hst hnx hat0 tr f2 f3
            have w0 : IntKind.i64.wrap va = va := IntWalk.i64_in _ (by omega)
            have w1 : IntKind.i64.wrap vb = vb := IntWalk.i64_in _ (by omega)
            have w2 : IntKind.i64.wrap ((k : Int) + 1 - 1) = (k : Int) := by rw [IntWalk.i64_in _ (by omega)]; omega
            have w2' : IntKind.i64.wrap (((k + 1 : Nat) : Int) - 1) = (k : Int) := by rw [IntWalk.i64_in _ (by omega)]; omega
            have w3 : IntKind.i64.wrap (dy + 1) = dy + 1 := IntWalk.i64_in _ (by omega)
            have z0 : va.tmod 60 = va % 60 := Int.tmod_eq_emod_of_nonneg a0
            have w4 : IntKind.i64.wrap (va % 60) = va % 60 := IntWalk.i64_in _ (by omega)
            have w5 : IntKind.i64.wrap (dy + 1 + va % 60) = dy + 1 + va % 60 := IntWalk.i64_in _ (by omega)
            have z1 : vb.tdiv 3 = vb / 3 := Int.tdiv_eq_ediv_of_nonneg b0
            have w6 : IntKind.i64.wrap (vb / 3) = vb / 3 := IntWalk.i64_in _ (by omega)
            have w7 : IntKind.i64.wrap (255 - vb / 3) = 255 - vb / 3 := IntWalk.i64_in _ (by omega)
            have m0 : 0 ≤ kp * (255 - vb / 3) := Int.mul_nonneg e0 (by omega)
            have m1 : kp * (255 - vb / 3) ≤ 1000 * 255 := Int.mul_le_mul e1 (by omega) (by omega) (by omega)
            have w8 : IntKind.i64.wrap (kp * (255 - vb / 3)) = kp * (255 - vb / 3) := IntWalk.i64_in _ (by omega)
            have z2 : (kp * (255 - vb / 3)).tdiv 255 = kp * (255 - vb / 3) / 255 := Int.tdiv_eq_ediv_of_nonneg m0
            have w9 : IntKind.i64.wrap (kp * (255 - vb / 3) / 255) = kp * (255 - vb / 3) / 255 := IntWalk.i64_in _ (by omega)
            have k1 : k + 1 + 1 ≤ maxLen := by unfold maxLen; omega
            have k2 : (k + 1 + 1) * 16 ≤ 140737488355328 := by omega
            go_upto_region 11 with fail
            refine wp_abs (fun Z => Gr wr Z ∧ Box Z wr.heap.size [.int .i64 dy, .int .i64 kp]) ⟨Gr.al wr _, Box.new wr [.int .i64 dy, .int .i64 kp] 136 wr.heap.size rfl⟩ ?_
            rintro Z ⟨gZ, hb⟩
            have hheld : ∀ W, Gr Z W → StepHeld wr.heap.size w.heap.size sb (sof + k * 2) dy kp (.slice (some ⟨sb, sof, none⟩) S.length sc) va vb W := fun W g => ⟨(hb.keep g).2 0 _ rfl, (hb.keep g).2 1 _ rfl, ((gZ.tr g)).keep p1, ((gZ.tr g)).keep y0, ((gZ.tr g)).keep y1⟩
            have hF := hheld _ (Gr.dr Z)
            haveI : Nonempty (AtW (StepHeld wr.heap.size w.heap.size sb (sof + k * 2) dy kp (.slice (some ⟨sb, sof, none⟩) S.length sc) va vb)) := ⟨⟨_, hF⟩⟩
            have x0_ : ∀ u : AtW (StepHeld wr.heap.size w.heap.size sb (sof + k * 2) dy kp (.slice (some ⟨sb, sof, none⟩) S.length sc) va vb), u.val.cell? ⟨wr.heap.size, 0, none⟩ = some (.int .i64 dy) := fun u => u.property.1
            have x1_ : ∀ u : AtW (StepHeld wr.heap.size w.heap.size sb (sof + k * 2) dy kp (.slice (some ⟨sb, sof, none⟩) S.length sc) va vb), u.val.cell? ⟨wr.heap.size, 1, none⟩ = some (.int .i64 kp) := fun u => u.property.2.1
            have x2_ : ∀ u : AtW (StepHeld wr.heap.size w.heap.size sb (sof + k * 2) dy kp (.slice (some ⟨sb, sof, none⟩) S.length sc) va vb), u.val.cell? ⟨w.heap.size, 1, none⟩ = some (.slice (some ⟨sb, sof, none⟩) S.length sc) := fun u => u.property.2.2.1
            have x3_ : ∀ u : AtW (StepHeld wr.heap.size w.heap.size sb (sof + k * 2) dy kp (.slice (some ⟨sb, sof, none⟩) S.length sc) va vb), u.val.cell? ⟨sb, sof + k * 2, none⟩ = some (.int .u8 va) := fun u => u.property.2.2.2.1
            have x4_ : ∀ u : AtW (StepHeld wr.heap.size w.heap.size sb (sof + k * 2) dy kp (.slice (some ⟨sb, sof, none⟩) S.length sc) va vb), u.val.cell? ⟨sb, sof + k * 2 + 1, none⟩ = some (.int .u8 vb) := fun u => u.property.2.2.2.2
            refine wp_region_ord (fun w' => ∃ u : AtW (StepHeld wr.heap.size w.heap.size sb (sof + k * 2) dy kp (.slice (some ⟨sb, sof, none⟩) S.length sc) va vb), w' = u.val) 29 ((List.range' 0 27).map (fun i => (i, true)) ++ [(27, false), (28, false)]) (by kernel_rfl) (by kernel_rfl) ⟨⟨_, hF⟩, rfl⟩ ?_
            refine ord_seg 0 27 (by kernel_rfl) (fun d _ _ _ _ h => by cases d <;> exact h) ?_
            simp only [List.drop_zero, List.take_succ_cons, List.take_zero]
            repeat (go_big_quiet_step (fail))
            refine wpQuiet_nil ?_
            clear x0_ x1_ x2_ x3_ x4_
            refine wpOp_step rfl (fun K' hK => ?_)
            go_simp
            have gB := (Gr.al Z (.cells #[.int .i64 (dy + 1 + va % 60), .int .i64 (kp * (255 - vb / 3) / 255)] 136)).tr (Gr.dr _)
            refine hK _ _ ⟨⟨⟨_, hheld _ gB⟩, rfl⟩, ?_⟩
            clear hK
            refine wpOp_step rfl (fun K' hK => ?_)
            refine step_append_lies _ (by rfl) _ _ 54 (by rfl) B0 136 i1 _ 2 16 Try.underlying54 hj hy0 hy1 hy2 rfl (by decide) (.slice (some ⟨h, 0, none⟩) (k + 1) cp) (k + 1) _ (by rfl) (owns_keep oK (gZ.tr gB)) ⟨Z.heap.size, 0, none⟩ 1 1 ([dy + 1 + va % 60, kp * (255 - vb / 3) / 255].map (fun n => Value.int .i64 n)) (by rfl) (by rfl) (cell_news _ _ _) (ints_one _) (by omega) k1 k2 ?_ _ rfl ?_
            · have := (gW.tr (gZ.tr gB)).size
              omega
            intro h2 cap4 W4 hR4 hgr4 hat4 hlt4
            have gY := (gW.tr (gZ.tr gB)).grown' (owns_keep oK (gZ.tr gB)) (by omega) hgr4
            have hbd := (oA.lt g rfl).2
            have hne : h2 ≠ g := by
              rcases hat4 with q | q
              · simp only [Value.ownBlock, Option.some.injEq] at q
                omega
              · have := (gZ.tr gB).size
                omega
            have oA2 := (owns_keep oA (gZ.tr gB)).kept hgr4 (.inr (by simp only [Value.ownBlock, ne_eq, Option.some.injEq]; omega))
            have hblk : ∀ q, (Value.slice (some ⟨h, 0, none⟩) (k + 1) cp).ownBlock = some q → q = h := fun q e => by simp only [Value.ownBlock, Option.some.injEq] at e; exact e.symm
            have hhB : B0 ≤ h := (oK.lt h rfl).1
            have hh2 : h < wr.heap.size := (oK.lt h rfl).2
            have hb4 := (hb.keep gB).grown hgr4 (fun r hr => by have := hblk r hr; omega)
            refine hK _ _ ⟨⟨⟨_, hb4.2 0 _ rfl, hb4.2 1 _ rfl, (hx.keep gY).2 1 _ rfl, gY.keep v0, gY.keep v1⟩, rfl⟩, ?_⟩
            clear hK hgr4 hat4 hb4
            show wpList _ _ _ (List.drop 29 _) _ _
            simp only [List.drop_succ_cons, List.drop_zero]
            clear w0 w1 w2 w2' w3 w4 w5 w6 w7 w8 w9 z0 z1 z2 m0 m1
            go_wp2
            go_roundw
            case rel =>
              have hR5 : W4.ownsRow B0 136 2 (.slice (some ⟨h2, 0, none⟩) (k + 1 + 1) cap4) (k + 1 + 1) ((tabW S (k + 1)).flatMap encT) := by
                rw [tabW_succ, HN.out, flat_snoc]
                exact hR4
              first | exact Lib.hid ⟨k + 1, h2, cap4, by omega, by go_num, rfl, hne, gY, oA2, hR5⟩ | exact Lib.hid ⟨k + 1, by omega, by go_num, h2, cap4, ⟨rfl, rfl, rfl⟩, hne, hR5⟩
            case measure => simp [intOf]; omega
          · obtain rfl : n = k := by omega
            clear hlt hk
            obtain ⟨ra, rc, hva, rA, _, hcA⟩ := owns_row_cap (enc := encL) (l := boxesW X m) (fun _ => rfl) (by rw [boxesW_len (by omega)]; omega) (by rw [boxesW_len (by omega)]; exact oA)
            obtain ⟨rb, rd, hvb, rK, _, hcK⟩ := owns_row_cap (enc := encT) (l := tabW S n) (fun _ => rfl) (by rw [tabW_len]; omega) (by rw [tabW_len]; exact oK)
            rw [boxesW_len (by omega)] at hva hcA
            rw [tabW_len] at hvb hcK
            injection hva with f1 f2 f3
            subst f1
            subst f3
            injection hvb with f4 f5 f6
            subst f4
            subst f6
            clear f2 f5 oA oK
            by_cases c3 : n < S.length
            · have c4 : decide ((n : Int) < 6) = false := by simp; omega
              go_wp2
              go_ret2
              exact ⟨g, cap, h, cp, rfl, rA, rK, hcA, hcK, gg.tr gW⟩
            · go_wp2
              go_ret2
              exact ⟨g, cap, h, cp, rfl, rA, rK, hcA, hcK, gg.tr gW⟩

end Go.Proofs.Ytjdeojpapdphoaa

namespace Go.Proofs.Ytjdeojpapdphoaa
set_option linter.unusedVariables false
set_option linter.unusedSimpArgs false
open Go.RowKit

set_option maxRecDepth 100000 in
set_option maxHeartbeats 400000 in
/-- A copy of boxes. -/
theorem lboxes_any (l : List Ld) (hl : l.length ≤ 1000) (b off cap : Nat) (w : World) (hr : LRow w (some ⟨b, off, none⟩) l) :
    Calls Try.prog 33 #[.slice (some ⟨b, off, none⟩) l.length cap] w fun e w' => ∃ v, e = .returned v ∧ w'.ownsRow w.heap.size 70 4 v l.length (l.flatMap encL) ∧ Gr w w' := by
  obtain ⟨i0, hi, hz0, hz1, hz2⟩ := info_parts infoLd
  have hr1 := hr.grow (Gr.al w (.cells #[] 70))
  have h1 : 0 + l.length ≤ maxLen := by unfold maxLen; omega
  have h2 : (0 + l.length) * 32 ≤ 140737488355328 := by omega
  have hfl := flat_len (enc := encL) (sz := 4) (fun _ => rfl) l
  have hnews := row_news (enc := encL) (sz := 4) (fun _ => rfl) hr1
  have Hfl := Lib.hid hfl
  have Hnews := Lib.hid hnews
  clear hfl hnews
  go_enter Try.func33, Try.ntmps33
  go_wp2_with (at_builtin; refine wpList_append_own _ rfl _ _ 53 rfl w.heap.size 70 i0 _ 4 32 Try.underlying53 hi hz0 hz1 hz2 rfl (by decide) _ _ _ rfl (owns_empty w _ _) ⟨b, off, none⟩ l.length cap (l.flatMap encL) rfl Hfl.out Hnews.out (one_flat (fun x u hu => by simp [encL] at hu; rcases hu with rfl | rfl | rfl | rfl <;> rfl) l) h1 h2 (by simp) ?_; intro v' w1 hown hgrow _)
  have Ho := Lib.hid (show w1.ownsRow w.heap.size 70 4 v' l.length (l.flatMap encL) by simpa using hown)
  clear hown
  go_wp2
  go_ret
  exact ⟨v', rfl, Ho.out, (Gr.al w _).grown' (owns_empty w _ 4) (Nat.le_refl _) hgrow⟩

set_option maxRecDepth 100000 in
set_option maxHeartbeats 400000 in
/-- A copy of a table. -/
theorem lsteps_any (l : List Stp) (hl : l.length ≤ 1000) (b off cap : Nat) (w : World) (hr : TRow w (some ⟨b, off, none⟩) l) :
    Calls Try.prog 34 #[.slice (some ⟨b, off, none⟩) l.length cap] w fun e w' => ∃ v, e = .returned v ∧ w'.ownsRow w.heap.size 136 2 v l.length (l.flatMap encT) ∧ Gr w w' := by
  obtain ⟨i0, hi, hz0, hz1, hz2⟩ := info_parts infoSt2
  have hr1 := hr.grow (Gr.al w (.cells #[] 136))
  have h1 : 0 + l.length ≤ maxLen := by unfold maxLen; omega
  have h2 : (0 + l.length) * 16 ≤ 140737488355328 := by omega
  have hfl := flat_len (enc := encT) (sz := 2) (fun _ => rfl) l
  have hnews := row_news (enc := encT) (sz := 2) (fun _ => rfl) hr1
  have Hfl := Lib.hid hfl
  have Hnews := Lib.hid hnews
  clear hfl hnews
  go_enter Try.func34, Try.ntmps34
  go_wp2_with (at_builtin; refine wpList_append_own _ rfl _ _ 54 rfl w.heap.size 136 i0 _ 2 16 Try.underlying54 hi hz0 hz1 hz2 rfl (by decide) _ _ _ rfl (owns_empty w _ _) ⟨b, off, none⟩ l.length cap (l.flatMap encT) rfl Hfl.out Hnews.out (one_flat (fun x u hu => by simp [encT] at hu; rcases hu with rfl | rfl <;> rfl) l) h1 h2 (by simp) ?_; intro v' w1 hown hgrow _)
  have Ho := Lib.hid (show w1.ownsRow w.heap.size 136 2 v' l.length (l.flatMap encT) by simpa using hown)
  clear hown
  go_wp2
  go_ret
  exact ⟨v', rfl, Ho.out, (Gr.al w _).grown' (owns_empty w _ 2) (Nat.le_refl _) hgrow⟩

/-- A byte of a list, used again and again. -/
def byteW (Y : List Int) (i : Nat) : Int := Y.getD (i % Y.length) 0

theorem byteW_bd {Y : List Int} (h : Bytes Y) (i : Nat) : 0 ≤ byteW Y i ∧ byteW Y i ≤ 255 := by
  unfold byteW
  rw [List.getD_eq_getElem?_getD]
  cases hx : Y[i % Y.length]? with
  | none => simp
  | some x => exact h x (List.mem_of_getElem? hx)

set_option maxRecDepth 100000 in
theorem lbyteOf_any (Y : List Int) (hY : Bytes Y) (i : Nat) (hi : i ≤ 1000000) (ya : Option Addr) (yc : Nat) (w : World) (ry : URow w ya Y) :
    Calls Try.prog 53 #[.slice ya Y.length yc, .int .i64 (i : Int)] w fun e w' => e = .returned (.int .i64 (byteW Y i)) ∧ Gr w w' := by
  have hl := ry.1
  by_cases h0 : Y.length = 0
  · have E := Lib.hid (show byteW Y i = 0 by
      have : Y = [] := List.eq_nil_of_length_eq_zero h0
      subst this
      rfl)
    have d0 : ((Y.length : Int) == 0) = true := by simp [h0]
    go_enter Try.func53, Try.ntmps53
    go_wp2
    go_ret
    exact ⟨by rw [E.out]; rfl, Below.refl _ _⟩
  · have hlt : i % Y.length < Y.length := Nat.mod_lt _ (by omega)
    obtain ⟨x, hx⟩ : ∃ x, Y[i % Y.length]? = some x := ⟨_, List.getElem?_eq_getElem hlt⟩
    obtain ⟨x0, x1⟩ := hY x (List.mem_of_getElem? hx)
    have E := Lib.hid (show byteW Y i = x by unfold byteW; rw [List.getD_eq_getElem?_getD, hx]; rfl)
    obtain ⟨b, off, rfl, hb, hc⟩ := URow.get ry hx
    have d0 : ((Y.length : Int) == 0) = false := by rw [beq_eq_false_iff_ne]; omega
    have d1 : ¬ (Y.length : Int) = 0 := by omega
    obtain ⟨m, hm⟩ : ∃ m, i % Y.length = m := ⟨_, rfl⟩
    have z0 : (i : Int).tmod (Y.length : Int) = (m : Int) := by rw [Int.tmod_eq_emod_of_nonneg (by omega), ← hm]; rfl
    have w0 : IntKind.i64.wrap (m : Int) = (m : Int) := IntWalk.i64_in _ (by omega)
    have w1 : IntKind.i64.wrap x = x := IntWalk.i64_in _ (by omega)
    rw [hm] at hlt hc
    clear hm hx h0
    go_enter Try.func53, Try.ntmps53
    go_wp2
    go_ret
    exact ⟨by rw [E.out]; rfl, Below.refl _ _⟩

end Go.Proofs.Ytjdeojpapdphoaa

namespace Go.Proofs.Ytjdeojpapdphoaa
set_option linter.unusedVariables false
set_option linter.unusedSimpArgs false
open Go.RowKit

theorem IRow.cell4 {w : World} {b off : Nat} {l : List Int} (h : IRow w (some ⟨b, off, none⟩) l) {j : Nat} {x : Int} (hx : l[j]? = some x) : w.cell? ⟨b, off + j, none⟩ = some (.int .i64 x) := by
  obtain ⟨b', off', e, _, hc⟩ := IRow.get h hx
  injection e with e
  injection e with e1 e2 _
  subst e1
  subst e2
  exact hc

/-- What is kept on a day, by the first so many steps. -/
def keptTo (t : List Stp) (day : Int) : Nat → Int
  | 0 => 0
  | k + 1 => match t[k]? with
    | some s => if s.day ≤ day then s.keep else keptTo t day k
    | none => keptTo t day k

theorem keptTo_succ {t : List Stp} {day : Int} {k : Nat} {s : Stp} (h : t[k]? = some s) : keptTo t day (k + 1) = if s.day ≤ day then s.keep else keptTo t day k := by
  show (match t[k]? with
    | some s => if s.day ≤ day then s.keep else keptTo t day k
    | none => keptTo t day k) = _
  rw [h]

theorem keptTo_bd {t : List Stp} (h : ∀ s ∈ t, 0 ≤ s.keep ∧ s.keep ≤ 1000) (day : Int) : ∀ k, 0 ≤ keptTo t day k ∧ keptTo t day k ≤ 1000
  | 0 => by simp [keptTo]
  | k + 1 => by
    have ih := keptTo_bd h day k
    cases hs : t[k]? with
    | none =>
      have e : keptTo t day (k + 1) = keptTo t day k := by
        show (match t[k]? with
          | some s => if s.day ≤ day then s.keep else keptTo t day k
          | none => keptTo t day k) = _
        rw [hs]
      rw [e]
      exact ih
    | some s =>
      rw [keptTo_succ hs]
      split
      · exact h s (List.mem_of_getElem? hs)
      · exact ih

/-- So many weights from a box on. -/
def sumT (h : List Int) (a : Nat) : Nat → Int
  | 0 => 0
  | n + 1 => sumT h a n + h.getD (a + n) 0

theorem sumT_bd {h : List Int} (hh : ∀ x ∈ h, 0 ≤ x ∧ x ≤ 1000) (a : Nat) : ∀ n : Nat, 0 ≤ sumT h a n ∧ sumT h a n ≤ 1000 * (n : Int)
  | 0 => by simp [sumT]
  | n + 1 => by
    have ih := sumT_bd hh a n
    have hx : 0 ≤ h.getD (a + n) 0 ∧ h.getD (a + n) 0 ≤ 1000 := by
      rw [List.getD_eq_getElem?_getD]
      cases hc : h[a + n]? with
      | none => simp
      | some x => exact hh x (List.mem_of_getElem? hc)
    unfold sumT
    omega

/-- Whether a box does not hold, by true strengths and weights. -/
def weakS (strong heavy : List Int) (k : Int) (i : Nat) : Bool := decide (strong.getD i 0 * k / 1000 < sumT heavy (i + 1) (heavy.length - (i + 1)))

def staysO (strong heavy : List Int) (k : Int) : Option Nat := (List.range strong.length).find? (weakS strong heavy k)

def staysV (strong heavy : List Int) (k : Int) : Value := match staysO strong heavy k with
  | none => .tuple #[.bool true, .int .i64 0]
  | some i => .tuple #[.bool false, .int .i64 (i : Int)]

set_option maxRecDepth 100000 in
set_option maxHeartbeats 4000000 in
theorem stays_any (strong heavy : List Int) (t : List Stp) (day : Int) (hs : ∀ x ∈ strong, 0 ≤ x ∧ x ≤ 2000) (hh : ∀ x ∈ heavy, 0 ≤ x ∧ x ≤ 1000) (ht : ∀ s ∈ t, 0 ≤ s.keep ∧ s.keep ≤ 1000) (hn : heavy.length ≤ 100) (hn2 : strong.length ≤ 100) (sa ha ta : Option Addr) (sc hc tc : Nat) (w : World) (rs : IRow w sa strong) (rh : IRow w ha heavy) (rt : TRow w ta t) :
    Calls Try.prog 54 #[.slice sa strong.length sc, .slice ha heavy.length hc, .slice ta t.length tc, .int .i64 day] w fun e w' => e = .returned (staysV strong heavy (keptTo t day t.length)) ∧ Gr w w' := by
  have ht0 := rt.1
  have HH := Lib.hid hh
  have HS := Lib.hid hs
  have HT := Lib.hid (keptTo_bd ht day)
  clear hh hs ht
  go_enter Try.func54, Try.ntmps54
  go_wp2
  go_loopw [11, 10] (fun i q wr => Hid (∃ k : Nat, k ≤ t.length ∧ i = .int .i64 k ∧ q = .int .i64 (keptTo t day k) ∧ Gr w wr)) (fun i _ _ => t.length - (intOf i).toNat)
  case atStart => exact Lib.hid ⟨0, Nat.zero_le _, rfl, rfl, Below.refl _ _⟩
  case round =>
    obtain ⟨k, hk, rfl, rfl, gW⟩ := hrel.out
    clear hrel
    by_cases hlt : k < t.length
    · obtain ⟨⟨sd, sk⟩, hx⟩ : ∃ s, t[k]? = some s := ⟨t[k], by simp [hlt]⟩
      obtain ⟨b1, o1, rfl, h1, c0, c1⟩ := TRow.get (rt.grow gW) hx
      dsimp only at c0 c1
      have hn1 := keptTo_succ (day := day) hx
      dsimp only at hn1
      by_cases hd : sd ≤ day
      · rw [if_pos hd] at hn1
        have HN := Lib.hid hn1
        clear hn1 hx
        go_wp2
        go_roundw
        case rel => exact Lib.hid ⟨k + 1, by omega, by go_num, by rw [HN.out], gW⟩
        case measure => simp [intOf]; omega
      · rw [if_neg hd] at hn1
        have HN := Lib.hid hn1
        have hd2 : decide (sd ≤ day) = false := by simpa using hd
        clear hn1 hx
        go_wp2
        go_roundw
        case rel => exact Lib.hid ⟨k + 1, by omega, by go_num, by rw [HN.out], gW⟩
        case measure => simp [intOf]; omega
    · obtain rfl : k = t.length := by omega
      obtain ⟨q0, q1⟩ := HT.out t.length
      obtain ⟨q, hq⟩ : ∃ q, keptTo t day t.length = q := ⟨_, rfl⟩
      rw [hq] at q0 q1 ⊢
      have HQ := Lib.hid hq
      clear hq hlt hk HT
      go_wp2
      go_loopw [12] (fun i wr => Hid (∃ k : Nat, k ≤ strong.length ∧ i = .int .i64 k ∧ Gr w wr ∧ ∀ j, j < k → weakS strong heavy q j = false)) (fun i _ => strong.length - (intOf i).toNat)
      case atStart => exact Lib.hid ⟨0, Nat.zero_le _, rfl, gW, fun j hj => by omega⟩
      case round =>
        clear gW
        obtain ⟨k, hk, rfl, gW, hp⟩ := hrel.out
        clear hrel
        have HP := Lib.hid hp
        clear hp
        by_cases hlt : k < strong.length
        · obtain ⟨x, hx⟩ : ∃ x, strong[k]? = some x := ⟨strong[k], by simp [hlt]⟩
          obtain ⟨x0, x1⟩ := HS.out x (List.mem_of_getElem? hx)
          have hgx : strong.getD k 0 = x := by rw [List.getD_eq_getElem?_getD, hx]; rfl
          obtain ⟨bs, os, rfl, _, cs⟩ := IRow.get (rs.grow gW) hx
          have HX := Lib.hid hx
          clear hx
          go_wp2
          go_loopw [14, 13] (fun i s wr => Hid (∃ n : Nat, (n = 0 ∨ k + 1 + n ≤ heavy.length) ∧ i = .int .i64 ((k + 1 + n : Nat) : Int) ∧ s = .int .i64 (sumT heavy (k + 1) n) ∧ Gr w wr)) (fun i _ _ => heavy.length - (intOf i).toNat)
          case atStart => exact Lib.hid ⟨0, .inl rfl, by go_num, rfl, gW⟩
          case round =>
            clear gW cs
            obtain ⟨n, hn', rfl, rfl, gW⟩ := hrel.out
            clear hrel
            obtain ⟨s0, s1⟩ := sumT_bd HH.out (k + 1) n
            obtain ⟨M, hM⟩ : ∃ M, k + 1 + n = M := ⟨_, rfl⟩
            rw [hM]
            by_cases hlt2 : M < heavy.length
            · obtain ⟨y, hy⟩ : ∃ y, heavy[M]? = some y := ⟨heavy[M], by simp [hlt2]⟩
              obtain ⟨y0, y1⟩ := HH.out y (List.mem_of_getElem? hy)
              obtain ⟨bh, oh, rfl, _, ch⟩ := IRow.get (rh.grow gW) hy
              have hsn := Lib.hid (show sumT heavy (k + 1) (n + 1) = sumT heavy (k + 1) n + y by
                show sumT heavy (k + 1) n + heavy.getD (k + 1 + n) 0 = _
                rw [hM, List.getD_eq_getElem?_getD, hy]
                rfl)
              clear hy
              generalize sumT heavy (k + 1) n = Sm at *
              have ws : IntKind.i64.wrap (Sm + y) = Sm + y := IntWalk.i64_in _ (by omega)
              have hM2 : k + 1 + n ≤ M ∧ M ≤ k + 1 + n := by omega
              clear hM
              go_wp2
              go_roundw
              case rel => exact Lib.hid ⟨n + 1, .inr (by omega), by go_num, by rw [hsn.out], gW⟩
              case measure => simp [intOf]; omega
            · have hlen : n = heavy.length - (k + 1) := by omega
              have hW : weakS strong heavy q k = decide (x * q / 1000 < sumT heavy (k + 1) n) := by
                unfold weakS
                rw [hgx, ← hlen]
              obtain ⟨Sm, hSm⟩ : ∃ Sm, sumT heavy (k + 1) n = Sm := ⟨_, rfl⟩
              rw [hSm] at hW ⊢
              have m0 : 0 ≤ x * q := Int.mul_nonneg x0 q0
              have m1 : x * q ≤ 2000 * 1000 := Int.mul_le_mul x1 q1 q0 (by omega)
              have w0 : IntKind.i64.wrap (x * q) = x * q := IntWalk.i64_in _ (by omega)
              have z0 : (x * q).tdiv 1000 = x * q / 1000 := Int.tdiv_eq_ediv_of_nonneg m0
              have w1 : IntKind.i64.wrap (x * q / 1000) = x * q / 1000 := IntWalk.i64_in _ (by omega)
              have cs := IRow.cell4 (rs.grow gW) HX.out
              have hM2 : k + 1 + n ≤ M ∧ M ≤ k + 1 + n := by omega
              clear hM hlen hSm hgx
              by_cases hwk : x * q / 1000 < Sm
              · have hwt : weakS strong heavy q k = true := by rw [hW]; simpa using hwk
                have E := Lib.hid (show staysV strong heavy q = .tuple #[.bool false, .int .i64 (k : Int)] by
                  have : staysO strong heavy q = some k := by
                    unfold staysO
                    rw [List.find?_range_eq_some]
                    exact ⟨hwt, List.mem_range.2 hlt, fun j hj => by rw [HP.out j hj]; rfl⟩
                  unfold staysV
                  rw [this])
                clear hW hwt
                go_wp2
                rw [HQ.out, E.out]
                go_ret2
                exact ⟨rfl, gW⟩
              · have hwf : weakS strong heavy q k = false := by rw [hW]; simpa using hwk
                have hwd : decide (x * q / 1000 < Sm) = false := by simpa using hwk
                have HP2 := Lib.hid (show ∀ j, j < k + 1 → weakS strong heavy q j = false from fun j hj => by
                  rcases Nat.lt_or_ge j k with h | h
                  · exact HP.out j h
                  · obtain rfl : j = k := by omega
                    exact hwf)
                clear hW hwf
                go_wp2
                go_roundw
                case rel => exact Lib.hid ⟨k + 1, by omega, by go_num, gW, HP2.out⟩
                case measure => simp [intOf]; omega
        · obtain rfl : k = strong.length := by omega
          have E := Lib.hid (show staysV strong heavy q = .tuple #[.bool true, .int .i64 0] by
            have : staysO strong heavy q = none := by
              unfold staysO
              rw [List.find?_range_eq_none]
              intro i hi
              rw [HP.out i hi]
              rfl
            unfold staysV
            rw [this])
          go_wp2
          rw [HQ.out, E.out]
          go_ret2
          exact ⟨rfl, gW⟩

end Go.Proofs.Ytjdeojpapdphoaa

namespace Go.Proofs.Ytjdeojpapdphoaa
set_option linter.unusedVariables false
set_option linter.unusedSimpArgs false
open Go.RowKit

/-- The true strength and the true weight of a box, by bytes. -/
def strAt (l : List Ld) (Y : List Int) (i : Nat) : Int := match l[i]? with
  | some x => x.sl + byteW Y (2 * i) * (x.sh - x.sl) / 255
  | none => 0

def hvyAt (l : List Ld) (Y : List Int) (i : Nat) : Int := match l[i]? with
  | some x => x.wl + byteW Y (2 * i + 1) * (x.wh - x.wl) / 255
  | none => 0

def strT (l : List Ld) (Y : List Int) (k : Nat) : List Int := (List.range k).map (strAt l Y)

def hvyT (l : List Ld) (Y : List Int) (k : Nat) : List Int := (List.range k).map (hvyAt l Y)

def weakT (l : List Ld) (k : Nat) : List Int := (l.take k).map Ld.sl

def mostT (l : List Ld) (k : Nat) : List Int := (l.take k).map Ld.wh

theorem strT_len (l : List Ld) (Y : List Int) (k : Nat) : (strT l Y k).length = k := by simp [strT]

theorem hvyT_len (l : List Ld) (Y : List Int) (k : Nat) : (hvyT l Y k).length = k := by simp [hvyT]

theorem weakT_len {l : List Ld} {k : Nat} (h : k ≤ l.length) : (weakT l k).length = k := by simp [weakT]; omega

theorem mostT_len {l : List Ld} {k : Nat} (h : k ≤ l.length) : (mostT l k).length = k := by simp [mostT]; omega

theorem strT_succ (l : List Ld) (Y : List Int) (k : Nat) : strT l Y (k + 1) = strT l Y k ++ [strAt l Y k] := by simp [strT, List.range_succ]

theorem hvyT_succ (l : List Ld) (Y : List Int) (k : Nat) : hvyT l Y (k + 1) = hvyT l Y k ++ [hvyAt l Y k] := by simp [hvyT, List.range_succ]

theorem weakT_succ {l : List Ld} {k : Nat} {x : Ld} (h : l[k]? = some x) : weakT l (k + 1) = weakT l k ++ [x.sl] := by unfold weakT; rw [List.take_add_one, h]; simp

theorem mostT_succ {l : List Ld} {k : Nat} {x : Ld} (h : l[k]? = some x) : mostT l (k + 1) = mostT l k ++ [x.wh] := by unfold mostT; rw [List.take_add_one, h]; simp

theorem frac_bd {a b y : Int} (h : a ≤ b) (y0 : 0 ≤ y) (y1 : y ≤ 255) : 0 ≤ y * (b - a) / 255 ∧ y * (b - a) / 255 ≤ b - a := by
  have h1 : 0 ≤ y * (b - a) := Int.mul_nonneg y0 (by omega)
  have h2 : y * (b - a) ≤ 255 * (b - a) := Int.mul_le_mul_of_nonneg_right y1 (by omega)
  omega

theorem strAt_bd {l : List Ld} {Y : List Int} (hY : Bytes Y) {i : Nat} {x : Ld} (h : l[i]? = some x) (hx : x.sl ≤ x.sh) : x.sl ≤ strAt l Y i ∧ strAt l Y i ≤ x.sh := by
  have hb := byteW_bd hY (2 * i)
  have := frac_bd hx hb.1 hb.2
  unfold strAt
  rw [h]
  dsimp only
  omega

theorem hvyAt_bd {l : List Ld} {Y : List Int} (hY : Bytes Y) {i : Nat} {x : Ld} (h : l[i]? = some x) (hx : x.wl ≤ x.wh) : x.wl ≤ hvyAt l Y i ∧ hvyAt l Y i ≤ x.wh := by
  have hb := byteW_bd hY (2 * i + 1)
  have := frac_bd hx hb.1 hb.2
  unfold hvyAt
  rw [h]
  dsimp only
  omega

theorem strT_at {l : List Ld} {Y : List Int} {k i : Nat} (h : i < k) : (strT l Y k)[i]? = some (strAt l Y i) := by
  unfold strT
  rw [List.getElem?_map, List.getElem?_range h]
  rfl

theorem hvyT_at {l : List Ld} {Y : List Int} {k i : Nat} (h : i < k) : (hvyT l Y k)[i]? = some (hvyAt l Y i) := by
  unfold hvyT
  rw [List.getElem?_map, List.getElem?_range h]
  rfl

theorem weakT_at {l : List Ld} {k i : Nat} {x : Ld} (hi : i < k) (h : l[i]? = some x) : (weakT l k)[i]? = some x.sl := by
  unfold weakT
  rw [List.getElem?_map, List.getElem?_take_of_lt hi, h]
  rfl

theorem mostT_at {l : List Ld} {k i : Nat} {x : Ld} (hi : i < k) (h : l[i]? = some x) : (mostT l k)[i]? = some x.wh := by
  unfold mostT
  rw [List.getElem?_map, List.getElem?_take_of_lt hi, h]
  rfl

theorem getD_of {h : List Int} {i : Nat} {x : Int} (e : h[i]? = some x) : h.getD i 0 = x := by rw [List.getD_eq_getElem?_getD, e]; rfl

/-- Sums of weights lie between the loads. -/
theorem sumT_most (l : List Ld) (a : Nat) : ∀ n : Nat, a + n ≤ l.length → sumT (mostT l l.length) a n = sumHi ((l.drop a).take n)
  | 0, _ => by simp [sumT, sumHi]
  | n + 1, h => by
    have ih := sumT_most l a n (by omega)
    obtain ⟨x, hx⟩ : ∃ x, l[a + n]? = some x := ⟨l[a + n], by simp⟩
    have h1 : (l.drop a)[n]? = some x := by rw [List.getElem?_drop]; exact hx
    have h2 := sum_take h1
    unfold sumT
    rw [ih, h2.2, getD_of (mostT_at (by omega) hx)]

theorem sumT_true (l : List Ld) (Y : List Int) (hY : Bytes Y) (hl : ∀ x ∈ l, x.wl ≤ x.wh) (a : Nat) : ∀ n : Nat, a + n ≤ l.length → sumLo ((l.drop a).take n) ≤ sumT (hvyT l Y l.length) a n ∧ sumT (hvyT l Y l.length) a n ≤ sumHi ((l.drop a).take n)
  | 0, _ => by simp [sumT, sumHi, sumLo]
  | n + 1, h => by
    have ih := sumT_true l Y hY hl a n (by omega)
    obtain ⟨x, hx⟩ : ∃ x, l[a + n]? = some x := ⟨l[a + n], by simp⟩
    have h1 : (l.drop a)[n]? = some x := by rw [List.getElem?_drop]; exact hx
    have h2 := sum_take h1
    have h3 := hvyAt_bd hY hx (hl x (List.mem_of_getElem? hx))
    unfold sumT
    rw [h2.1, h2.2, getD_of (hvyT_at (l := l) (Y := Y) (by omega))]
    omega

theorem take_all (l : List Ld) (a : Nat) : (l.drop a).take (l.length - a) = l.drop a := List.take_of_length_le (by simp)

theorem weakS_weakAt {l : List Ld} {q : Int} {i : Nat} (hi : i < l.length) : weakS (weakT l l.length) (mostT l l.length) q i = weakAt l q i := by
  obtain ⟨x, hx⟩ : ∃ x, l[i]? = some x := ⟨l[i], by simp [hi]⟩
  unfold weakS weakAt
  rw [hx, getD_of (weakT_at hi hx), mostT_len (Nat.le_refl _), sumT_most l (i + 1) (l.length - (i + 1)) (by omega), take_all]

theorem find_range {p q : Nat → Bool} {n : Nat} (h : ∀ i, i < n → p i = q i) : (List.range n).find? p = (List.range n).find? q := find_congr (fun x hx => h x (List.mem_range.1 hx))

theorem stays_worst (l : List Ld) (q : Int) : staysO (weakT l l.length) (mostT l l.length) q = weakO l q := by
  unfold staysO weakO
  rw [weakT_len (Nat.le_refl _)]
  exact find_range (fun i hi => weakS_weakAt hi)

theorem weakO_at {l : List Ld} {q : Int} (h : weakO l q = none) {i : Nat} (hi : i < l.length) : weakAt l q i = false := by
  unfold weakO at h
  rw [List.find?_range_eq_none] at h
  have := h i hi
  simpa using this

theorem stays_true (l : List Ld) (Y : List Int) (hY : Bytes Y) (hl : ∀ x ∈ l, x.sl ≤ x.sh ∧ x.wl ≤ x.wh) (q : Int) (q0 : 0 ≤ q) (h : weakO l q = none) : staysO (strT l Y l.length) (hvyT l Y l.length) q = none := by
  unfold staysO
  rw [strT_len, List.find?_range_eq_none]
  intro i hi
  obtain ⟨x, hx⟩ : ∃ x, l[i]? = some x := ⟨l[i], by simp [hi]⟩
  have h1 := weakO_at h hi
  unfold weakAt at h1
  rw [hx] at h1
  simp only [decide_eq_false_iff_not] at h1
  have hm := List.mem_of_getElem? hx
  have h2 := strAt_bd hY hx (hl x hm).1
  have h3 := (sumT_true l Y hY (fun x hx => (hl x hx).2) (i + 1) (l.length - (i + 1)) (by omega)).2
  rw [take_all] at h3
  have h4 : x.sl * q ≤ strAt l Y i * q := Int.mul_le_mul_of_nonneg_right h2.1 q0
  have h5 : x.sl * q / 1000 ≤ strAt l Y i * q / 1000 := Int.ediv_le_ediv (by omega) h4
  unfold weakS
  rw [getD_of (strT_at hi), hvyT_len]
  simp only [Bool.not_eq_true', decide_eq_false_iff_not]
  omega

theorem sumT_front (h : List Int) (a : Nat) : ∀ n : Nat, sumT h a (n + 1) = sumT h (a + 1) n + h.getD a 0
  | 0 => by simp [sumT]
  | n + 1 => by
    have ih := sumT_front h a n
    rw [sumT, ih, sumT, show a + 1 + n = a + (n + 1) by omega]
    omega

theorem strT_bd {l : List Ld} {Y : List Int} (hY : Bytes Y) (hl : ∀ x ∈ l, LdOk x ∧ x.sl ≤ x.sh ∧ x.wl ≤ x.wh ∧ x.sh ≤ 1069 ∧ x.wh ≤ 284) : ∀ y ∈ strT l Y l.length, 0 ≤ y ∧ y ≤ 2000 := by
  intro y hy
  simp only [strT, List.mem_map, List.mem_range] at hy
  obtain ⟨i, hi, rfl⟩ := hy
  obtain ⟨x, hx⟩ : ∃ x, l[i]? = some x := ⟨l[i], by simp [hi]⟩
  obtain ⟨⟨_, p, _⟩, q, _, r, _⟩ := hl x (List.mem_of_getElem? hx)
  have := strAt_bd hY hx q
  omega

theorem hvyT_bd {l : List Ld} {Y : List Int} (hY : Bytes Y) (hl : ∀ x ∈ l, LdOk x ∧ x.sl ≤ x.sh ∧ x.wl ≤ x.wh ∧ x.sh ≤ 1069 ∧ x.wh ≤ 284) : ∀ y ∈ hvyT l Y l.length, 0 ≤ y ∧ y ≤ 1000 := by
  intro y hy
  simp only [hvyT, List.mem_map, List.mem_range] at hy
  obtain ⟨i, hi, rfl⟩ := hy
  obtain ⟨x, hx⟩ : ∃ x, l[i]? = some x := ⟨l[i], by simp [hi]⟩
  obtain ⟨⟨⟨p, _⟩, _⟩, _, q, _, r⟩ := hl x (List.mem_of_getElem? hx)
  have := hvyAt_bd hY hx q
  omega

theorem weakT_bd {l : List Ld} (hl : ∀ x ∈ l, LdOk x ∧ x.sl ≤ x.sh ∧ x.wl ≤ x.wh ∧ x.sh ≤ 1069 ∧ x.wh ≤ 284) : ∀ y ∈ weakT l l.length, 0 ≤ y ∧ y ≤ 2000 := by
  intro y hy
  simp only [weakT, List.take_length, List.mem_map] at hy
  obtain ⟨x, hx, rfl⟩ := hy
  obtain ⟨⟨_, p, _⟩, q, _, r, _⟩ := hl x hx
  omega

theorem mostT_bd {l : List Ld} (hl : ∀ x ∈ l, LdOk x ∧ x.sl ≤ x.sh ∧ x.wl ≤ x.wh ∧ x.sh ≤ 1069 ∧ x.wh ≤ 284) : ∀ y ∈ mostT l l.length, 0 ≤ y ∧ y ≤ 1000 := by
  intro y hy
  simp only [mostT, List.take_length, List.mem_map] at hy
  obtain ⟨x, hx, rfl⟩ := hy
  obtain ⟨⟨⟨p, _⟩, _⟩, _, q, _, r⟩ := hl x hx
  omega

theorem staysV_none {s h : List Int} {q : Int} (e : staysO s h q = none) : staysV s h q = .tuple #[.bool true, .int .i64 0] := by unfold staysV; rw [e]

theorem staysV_some {s h : List Int} {q : Int} {i : Nat} (e : staysO s h q = some i) : staysV s h q = .tuple #[.bool false, .int .i64 (i : Int)] := by unfold staysV; rw [e]

theorem fallV_none {l : List Ld} {t : List Stp} {days : Int} (h : fallO l (untilL t days) = none) : fallV l t days = .tuple #[.int .i64 0, .int .i64 0, .int .i64 7] := by unfold fallV; rw [h]

theorem fallV_some {l : List Ld} {t : List Stp} {days : Int} {s : Stp} {i : Nat} (h : fallO l (untilL t days) = some (s, i)) : fallV l t days = .tuple #[.int .i64 s.day, .int .i64 (i : Int), .int .i64 0] := by unfold fallV; rw [h]

theorem spans_at {l : List Ld} {m : Nat} (h : m < l.length) : (spansL l)[m]? = some ⟨sumLo (l.drop (m + 1)), sumHi (l.drop (m + 1))⟩ := by
  unfold spansL
  rw [List.getElem?_map, loadsL_at h]
  rfl

theorem weakO_lt {l : List Ld} {q : Int} {i : Nat} (h : weakO l q = some i) : i < l.length := by
  unfold weakO at h
  exact List.mem_range.1 (List.mem_of_find?_eq_some h)

/-- What is kept on a day, in a table of steps that ascend. -/
theorem stepW_mono {S : List V2} (h : ∀ v ∈ S, B2 v) (j : Nat) : ∀ n : Nat, (stepW S j).day + (n : Int) ≤ (stepW S (j + n)).day
  | 0 => by simp
  | n + 1 => by
    have := stepW_mono h j n
    have := stepW_next h (j + n)
    rw [show j + (n + 1) = j + n + 1 from rfl]
    omega

theorem stepW_lt {S : List V2} (h : ∀ v ∈ S, B2 v) {j k : Nat} (hjk : j < k) : (stepW S j).day < (stepW S k).day := by
  have := stepW_mono h j (k - j)
  rw [show j + (k - j) = k by omega] at this
  omega

theorem kept_at {S : List V2} {n k : Nat} {d : Int} (hk : k ≤ n) (h1 : (stepW S k).day ≤ d) (h2 : ∀ j, k < j → j ≤ n → d < (stepW S j).day) : keptTo (tabW S n) d (tabW S n).length = (stepW S k).keep := by
  have key : ∀ m : Nat, k + 1 + m ≤ n + 1 → keptTo (tabW S n) d (k + 1 + m) = (stepW S k).keep := by
    intro m
    induction m with
    | zero =>
      intro hm
      rw [Nat.add_zero, keptTo_succ (tabW_at hk), if_pos h1]
    | succ m ih =>
      intro hm
      rw [show k + 1 + (m + 1) = k + 1 + m + 1 from rfl, keptTo_succ (tabW_at (by omega)), if_neg (by have := h2 (k + 1 + m) (by omega) (by omega); omega)]
      exact ih (by omega)
  rw [tabW_len]
  have := key (n - k) (by omega)
  rwa [show k + 1 + (n - k) = n + 1 by omega] at this

theorem kept_some {S : List V2} (n : Nat) {d : Int} (d0 : 0 ≤ d) : ∃ k, k ≤ n ∧ (stepW S k).day ≤ d ∧ keptTo (tabW S n) d (tabW S n).length = (stepW S k).keep := by
  have key : ∀ n : Nat, ∃ k, k ≤ n ∧ (stepW S k).day ≤ d ∧ ∀ j, k < j → j ≤ n → d < (stepW S j).day := by
    intro n
    induction n with
    | zero => exact ⟨0, Nat.le_refl _, by simpa [stepW] using d0, fun j h1 h2 => by omega⟩
    | succ n ih =>
      by_cases h : (stepW S (n + 1)).day ≤ d
      · exact ⟨n + 1, Nat.le_refl _, h, fun j h1 h2 => by omega⟩
      · obtain ⟨k, h1, h2, h3⟩ := ih
        refine ⟨k, by omega, h2, fun j hj hj2 => ?_⟩
        rcases Nat.lt_or_ge j (n + 1) with e | e
        · exact h3 j hj (by omega)
        · obtain rfl : j = n + 1 := by omega
          omega
  obtain ⟨k, h1, h2, h3⟩ := key n
  exact ⟨k, h1, h2, kept_at h1 h2 h3⟩

/-- The first step that is not borne. -/
theorem mem_until {t : List Stp} {days : Int} : t.Pairwise (fun x y => x.day ≤ y.day) → ∀ s ∈ t, s.day ≤ days → s ∈ untilL t days := by
  induction t with
  | nil => intro _ s hs; cases hs
  | cons y t ih =>
    intro hp s hs hd
    obtain ⟨p1, p2⟩ := List.pairwise_cons.1 hp
    have hy : y.day ≤ days := by
      rcases List.mem_cons.1 hs with rfl | h
      · exact hd
      · have := p1 s h
        omega
    unfold untilL
    rw [List.takeWhile_cons, if_pos (by simpa using hy)]
    rcases List.mem_cons.1 hs with rfl | h
    · exact List.mem_cons_self
    · exact List.mem_cons_of_mem _ (ih p2 s h hd)

theorem until_day {t : List Stp} {days : Int} {s : Stp} (h : s ∈ untilL t days) : s.day ≤ days := by
  unfold untilL at h
  induction t with
  | nil => simp at h
  | cons y t ih =>
    rw [List.takeWhile_cons] at h
    split at h
    case isTrue hy =>
      rcases List.mem_cons.1 h with rfl | h
      · simpa using hy
      · exact ih h
    case isFalse => cases h

theorem fall_parts {l : List Ld} {u : List Stp} {s : Stp} {m : Nat} (h : fallO l u = some (s, m)) : ∃ k, u[k]? = some s ∧ weakO l s.keep = some m ∧ ∀ (j : Nat) (s' : Stp), j < k → u[j]? = some s' → weakO l s'.keep = none := by
  induction u with
  | nil => simp [fallO] at h
  | cons x u ih =>
    unfold fallO at h
    rw [List.findSome?_cons] at h
    cases hx : weakO l x.keep with
    | some i =>
      rw [hx] at h
      simp only [Option.map_some, Option.some.injEq, Prod.mk.injEq] at h
      obtain ⟨rfl, rfl⟩ := h
      exact ⟨0, rfl, hx, fun j s' hj => by omega⟩
    | none =>
      rw [hx] at h
      obtain ⟨k, h1, h2, h3⟩ := ih h
      refine ⟨k + 1, by simpa using h1, h2, fun j s' hj hs' => ?_⟩
      cases j with
      | zero => simp at hs'; subst hs'; exact hx
      | succ j => exact h3 j s' (by omega) (by simpa using hs')

theorem fall_nothing {l : List Ld} {u : List Stp} (h : fallO l u = none) : ∀ s ∈ u, weakO l s.keep = none := by
  unfold fallO at h
  rw [List.findSome?_eq_none_iff] at h
  intro s hs
  have := h s hs
  simpa using this

/-- A day on which the pile stands in the worst truth. -/
theorem stands_before {l : List Ld} {S : List V2} {n : Nat} {days : Int} (hS : ∀ v ∈ S, B2 v) (hp : (tabW S n).Pairwise (fun x y => x.day ≤ y.day)) {d : Int} (d0 : 0 ≤ d) (d1 : d ≤ days)
    (hF : ∀ s i, fallO l (untilL (tabW S n) days) = some (s, i) → d < s.day) : weakO l (keptTo (tabW S n) d (tabW S n).length) = none := by
  obtain ⟨k, hk, hd, he⟩ := kept_some (S := S) n d0
  rw [he]
  have hm : stepW S k ∈ tabW S n := List.mem_of_getElem? (tabW_at hk)
  have hu := mem_until (days := days) hp _ hm (by omega)
  cases hf : fallO l (untilL (tabW S n) days) with
  | none => exact fall_nothing hf _ hu
  | some y =>
    obtain ⟨s, i⟩ := y
    have h1 := hF s i hf
    obtain ⟨ks, h2, h3, h4⟩ := fall_parts hf
    have h5 := until_at h2
    obtain ⟨j, hj⟩ := List.getElem?_of_mem hu
    have hj2 := until_at hj
    rcases Nat.lt_or_ge j ks with e | e
    · exact h4 j _ e hj
    · exfalso
      have hks : ks ≤ n := by have := (List.getElem?_eq_some_iff.1 h5).1; rw [tabW_len] at this; omega
      have hjn : j ≤ n := by have := (List.getElem?_eq_some_iff.1 hj2).1; rw [tabW_len] at this; omega
      rw [tabW_at hks] at h5
      rw [tabW_at hjn] at hj2
      simp only [Option.some.injEq] at h5 hj2
      rw [← h5] at h1
      rw [← hj2] at hd
      rcases Nat.lt_or_ge ks j with e2 | e2
      · have := stepW_lt hS e2
        omega
      · obtain rfl : ks = j := by omega
        omega

theorem falls_on {l : List Ld} {S : List V2} {n : Nat} {days : Int} (hS : ∀ v ∈ S, B2 v) {s : Stp} {i : Nat} (h : fallO l (untilL (tabW S n) days) = some (s, i)) : 0 ≤ s.day ∧ s.day ≤ days ∧ weakO l (keptTo (tabW S n) s.day (tabW S n).length) = some i := by
  obtain ⟨ks, h2, h3, h4⟩ := fall_parts h
  have h5 := until_at h2
  have hd := until_day (List.mem_of_getElem? h2)
  have hks : ks ≤ n := by have := (List.getElem?_eq_some_iff.1 h5).1; rw [tabW_len] at this; omega
  rw [tabW_at hks] at h5
  simp only [Option.some.injEq] at h5
  subst h5
  refine ⟨(stepW_bd hS ks).1, hd, ?_⟩
  rw [kept_at hks (Int.le_refl _) (fun j h1 h2 => stepW_lt hS h1)]
  exact h3

/-- Without its topmost box. -/
theorem sumHi_take (l : List Ld) (hl : ∀ x ∈ l, 0 ≤ x.wh) (n : Nat) : sumHi (l.take n) ≤ sumHi l := by
  induction l generalizing n with
  | nil => simp
  | cons x l ih =>
    cases n with
    | zero =>
      have h1 := ih (fun y hy => hl y (List.mem_cons_of_mem _ hy)) 0
      have h2 := hl x List.mem_cons_self
      simp only [List.take_zero, sumHi] at h1 ⊢
      omega
    | succ n =>
      have h1 := ih (fun y hy => hl y (List.mem_cons_of_mem _ hy)) n
      simp only [List.take_succ_cons, sumHi]
      omega

theorem weak_take {l : List Ld} (hl : ∀ x ∈ l, 0 ≤ x.wh) {q : Int} (m : Nat) (h : weakO l q = none) : weakO (l.take m) q = none := by
  unfold weakO
  rw [List.find?_range_eq_none]
  intro i hi
  have hi2 : i < l.length := by simp at hi; omega
  obtain ⟨x, hx⟩ : ∃ x, l[i]? = some x := ⟨l[i], by simp [hi2]⟩
  have him : i < m := by simp at hi; omega
  have h1 := weakO_at h hi2
  unfold weakAt at h1 ⊢
  rw [hx] at h1
  rw [List.getElem?_take_of_lt him, hx]
  simp only [decide_eq_false_iff_not] at h1
  simp only [Bool.not_eq_true', decide_eq_false_iff_not]
  have h2 := sumHi_take (l.drop (i + 1)) (fun y hy => hl y (List.mem_of_mem_drop hy)) (m - (i + 1))
  rw [← List.drop_take] at h2
  omega

theorem fall_take {l : List Ld} (hl : ∀ x ∈ l, 0 ≤ x.wh) {t : List Stp} {days : Int} (hp : t.Pairwise (fun x y => x.day ≤ y.day)) (m : Nat) {s : Stp} {i : Nat} (h : fallO (l.take m) (untilL t days) = some (s, i)) :
    ∃ s' i', fallO l (untilL t days) = some (s', i') ∧ s'.day ≤ s.day := by
  obtain ⟨k, h1, h2, h3⟩ := fall_parts h
  cases hf : fallO l (untilL t days) with
  | none =>
    have := weak_take hl m (fall_nothing hf s (List.mem_of_getElem? h1))
    rw [h2] at this
    cases this
  | some y =>
    obtain ⟨s', i'⟩ := y
    obtain ⟨k', g1, g2, g3⟩ := fall_parts hf
    refine ⟨s', i', rfl, ?_⟩
    rcases Nat.lt_or_ge k k' with e | e
    · have := weak_take hl m (g3 k s e h1)
      rw [h2] at this
      cases this
    · have e1 := until_at h1
      have e2 := until_at g1
      rcases Nat.lt_or_ge k' k with e3 | e3
      · obtain ⟨b1, c1⟩ := List.getElem?_eq_some_iff.1 e1
        obtain ⟨b2, c2⟩ := List.getElem?_eq_some_iff.1 e2
        have := List.pairwise_iff_getElem.1 hp k' k b2 b1 e3
        rw [c1, c2] at this
        exact this
      · obtain rfl : k = k' := by omega
        rw [e1] at e2
        cases e2
        omega

end Go.Proofs.Ytjdeojpapdphoaa

namespace Go.Proofs.Ytjdeojpapdphoaa
set_option linter.unusedVariables false
set_option linter.unusedSimpArgs false
open Go.RowKit

theorem refIn_any (n lo hi : Int) (d : Bool) (hd : in1 lo hi n = d) (w : World) :
    Calls Try.prog 25 #[.int .i64 n, .int .i64 lo, .int .i64 hi] w fun e w' => e = .returned (.bool d) ∧ Gr w w' := by
  subst hd
  by_cases h : lo ≤ n
  · have E := Lib.hid (show in1 lo hi n = decide (n ≤ hi) by simp [in1, h])
    go_enter Try.func25, Try.ntmps25
    go_wp2
    go_ret
    exact ⟨ret_bool E.out.symm, Below.refl _ _⟩
  · have E := Lib.hid (show in1 lo hi n = false by simp [in1, h])
    have h' : decide (lo ≤ n) = false := by simpa using h
    go_enter Try.func25, Try.ntmps25
    go_wp2
    go_ret
    exact ⟨ret_bool E.out.symm, Below.refl _ _⟩

set_option maxRecDepth 100000 in
theorem refSpan_any (a b lo hi : Int) (d : Bool) (hd : okSpan lo hi a b = d) (w : World) :
    Calls Try.prog 72 #[.agg #[.int .i64 a, .int .i64 b], .int .i64 lo, .int .i64 hi] w fun e w' => e = .returned (.bool d) ∧ Gr w w' := by
  have gg := Gr.al w (.cells #[.int .i64 a, .int .i64 b] 45)
  have hb := Box.new w [.int .i64 a, .int .i64 b] 45 w.heap.size rfl
  obtain ⟨q0, q1⟩ := hb.c2
  cases c : in1 lo b a with
  | true =>
    have E := Lib.hid (show d = decide (b ≤ hi) by
      rw [← hd]
      simp [in1] at c
      by_cases h : b ≤ hi
      · simp [okSpan, inB, in1, h]
        omega
      · simp [okSpan, inB, in1, h])
    clear hd
    go_enter Try.func72, Try.ntmps72
    go_wp2_with (go_at_call 25; refine (refIn_any a lo b true c _).mono ?_; rintro e w1 ⟨rfl, g1⟩; replace hb := hb.keep g1; clear q0 q1; obtain ⟨q0, q1⟩ := hb.c2)
    go_ret
    exact ⟨ret_bool E.out.symm, gg.tr g1⟩
  | false =>
    have E := Lib.hid (show d = false by
      rw [← hd]
      cases h : okSpan lo hi a b with
      | false => rfl
      | true =>
        simp [okSpan, inB, in1] at h
        simp [in1] at c
        omega)
    clear hd
    go_enter Try.func72, Try.ntmps72
    go_wp2_with (go_at_call 25; refine (refIn_any a lo b false c _).mono ?_; rintro e w1 ⟨rfl, g1⟩; replace hb := hb.keep g1; clear q0 q1; obtain ⟨q0, q1⟩ := hb.c2)
    go_ret
    exact ⟨ret_bool E.out.symm, gg.tr g1⟩

theorem sq_bd {r N : Int} (h0 : 0 ≤ r) (h1 : r * r ≤ N) (h2 : N ≤ 200000000) : r ≤ 15000 := by
  rcases Int.lt_or_le 15000 r with h | h
  · have h3 : 15001 * 15001 ≤ r * r := Int.mul_le_mul (by omega) (by omega) (by omega) h0
    omega
  · exact h

set_option maxRecDepth 100000 in
set_option maxHeartbeats 2000000 in
theorem refStrength_any (edge cal ar ru : Int) (e0 : 0 ≤ edge) (e1 : edge ≤ 100000) (c0 : 1 ≤ cal) (c1 : cal ≤ 10000) (a0 : 1 ≤ ar) (a1 : ar ≤ 20000) (u0 : 1 ≤ ru) (u1 : ru ≤ 1000) (w : World) :
    Calls Try.prog 32 #[.int .i64 edge, .int .i64 cal, .int .i64 ar, .int .i64 ru] w fun e w' => e = .returned (.int .i64 (strongB ar ru edge cal)) ∧ Gr w w' := by
  have m0 : 1 ≤ cal * ar := by have := Int.mul_le_mul c0 a0 (by omega) (by omega); omega
  have m1 : cal * ar ≤ 10000 * 20000 := Int.mul_le_mul c1 a1 (by omega) (by omega)
  obtain ⟨N, hN⟩ : ∃ N, cal * ar = N := ⟨_, rfl⟩
  have E : strongB ar ru edge cal = edge * rootL N * ru / 100000 := by unfold strongB; rw [hN]
  have HE := Lib.hid E
  have wN : IntKind.i64.wrap (cal * ar) = N := by rw [IntWalk.i64_in _ (by omega)]; exact hN
  rw [hN] at m0 m1
  clear hN E
  go_enter Try.func32, Try.ntmps32
  go_wp2
  go_loopw [9] (fun i wr => Hid (∃ r : Nat, i = .int .i64 r ∧ (r : Int) * r ≤ N ∧ Gr w wr)) (fun i _ => 20000 - (intOf i).toNat)
  case atStart => exact Lib.hid ⟨0, rfl, by omega, Below.refl _ _⟩
  case round =>
    obtain ⟨r, rfl, hr, gW⟩ := hrel.out
    clear hrel
    have hb := sq_bd (by omega) hr (by omega)
    obtain ⟨P, hP⟩ : ∃ P, ((r : Int) + 1) * ((r : Int) + 1) = P := ⟨_, rfl⟩
    have p0 : 0 ≤ P := by rw [← hP]; exact Int.mul_nonneg (by omega) (by omega)
    have p1 : P ≤ 15001 * 15001 := by rw [← hP]; exact Int.mul_le_mul (by omega) (by omega) (by omega) (by omega)
    have w0 : IntKind.i64.wrap ((r : Int) + 1) = (r : Int) + 1 := IntWalk.i64_in _ (by omega)
    have w1 : IntKind.i64.wrap (((r : Int) + 1) * ((r : Int) + 1)) = P := by rw [hP]; exact IntWalk.i64_in _ (by omega)
    by_cases hlt : P ≤ N
    · have HP := Lib.hid hP
      clear hP
      go_wp2
      go_roundw
      case rel => exact Lib.hid ⟨r + 1, by go_num, by have := HP.out; push_cast; omega, gW⟩
      case measure => simp [intOf]; omega
    · have hroot : rootL N = (r : Int) := rootL_is (by omega) (by omega) hr (by rw [hP]; omega)
      obtain ⟨A1, hA1⟩ : ∃ A1, edge * (r : Int) = A1 := ⟨_, rfl⟩
      have q0 : 0 ≤ A1 := by rw [← hA1]; exact Int.mul_nonneg e0 (by omega)
      have q1 : A1 ≤ 100000 * 15000 := by rw [← hA1]; exact Int.mul_le_mul e1 hb (by omega) (by omega)
      obtain ⟨A2, hA2⟩ : ∃ A2, A1 * ru = A2 := ⟨_, rfl⟩
      have q2 : 0 ≤ A2 := by rw [← hA2]; exact Int.mul_nonneg q0 (by omega)
      have q3 : A2 ≤ 100000 * 15000 * 1000 := by rw [← hA2]; exact Int.mul_le_mul q1 u1 (by omega) (by omega)
      have w2 : IntKind.i64.wrap (edge * (r : Int)) = A1 := by rw [hA1]; exact IntWalk.i64_in _ (by omega)
      have w3 : IntKind.i64.wrap (A1 * ru) = A2 := by rw [hA2]; exact IntWalk.i64_in _ (by omega)
      have z0 : A2.tdiv 100000 = A2 / 100000 := Int.tdiv_eq_ediv_of_nonneg q2
      have w4 : IntKind.i64.wrap (A2 / 100000) = A2 / 100000 := IntWalk.i64_in _ (by omega)
      have HE2 := Lib.hid (show strongB ar ru edge cal = A2 / 100000 by rw [HE.out, hroot, hA1, hA2])
      clear hA1 hA2 hroot hP
      go_wp2
      go_ret
      exact ⟨by rw [HE2.out]; rfl, gW⟩

set_option maxRecDepth 100000 in
set_option maxHeartbeats 2000000 in
theorem refBox_any (el eh cl ch ar ru : Int) (d : Bool) (hd : boxOk el eh cl ch ar ru = d) (w : World) :
    Calls Try.prog 30 #[.agg #[.int .i64 el, .int .i64 eh, .int .i64 cl, .int .i64 ch, .int .i64 ar, .int .i64 ru]] w fun e w' => e = .returned (.bool d) ∧ Gr w w' := by
  have gg := Gr.al w (.cells #[.int .i64 el, .int .i64 eh, .int .i64 cl, .int .i64 ch, .int .i64 ar, .int .i64 ru] 47)
  have hb := Box.new w [.int .i64 el, .int .i64 eh, .int .i64 cl, .int .i64 ch, .int .i64 ar, .int .i64 ru] 47 w.heap.size rfl
  obtain ⟨q0, q1, q2, q3, q4, q5⟩ := hb.c6'
  have HD : d = (okSpan 0 100000 el eh && okSpan 1 10000 cl ch && in1 1 20000 ar && in1 1 1000 ru) := by
    rw [← hd]
    simp [boxOk, inB]
  clear hd
  have tok0 : True := trivial
  have tok1 : True := trivial
  cases c0 : okSpan 0 100000 el eh <;> cases c1 : okSpan 1 10000 cl ch <;> cases c2 : in1 1 20000 ar <;> cases c3 : in1 1 1000 ru
  all_goals
    rw [c0, c1, c2, c3] at HD
    have HD2 := Lib.hid HD
    clear HD
    go_enter Try.func30, Try.ntmps30
    go_wp2_with (first
      | (have _t := tok0; clear tok0 _t; go_at_call 72; refine (refSpan_any el eh 0 100000 _ c0 _).mono ?_; rintro e w1 ⟨rfl, hx⟩; replace gg := gg.tr hx; replace hb := hb.keep hx; clear hx q0 q1 q2 q3 q4 q5; obtain ⟨q0, q1, q2, q3, q4, q5⟩ := hb.c6')
      | (go_at_call 72; refine (refSpan_any cl ch 1 10000 _ c1 _).mono ?_; rintro e w1 ⟨rfl, hx⟩; replace gg := gg.tr hx; replace hb := hb.keep hx; clear hx q0 q1 q2 q3 q4 q5; obtain ⟨q0, q1, q2, q3, q4, q5⟩ := hb.c6')
      | (have _t := tok1; clear tok1 _t; go_at_call 25; refine (refIn_any ar 1 20000 _ c2 _).mono ?_; rintro e w1 ⟨rfl, hx⟩; replace gg := gg.tr hx; replace hb := hb.keep hx; clear hx q0 q1 q2 q3 q4 q5; obtain ⟨q0, q1, q2, q3, q4, q5⟩ := hb.c6')
      | (go_at_call 25; refine (refIn_any ru 1 1000 _ c3 _).mono ?_; rintro e w1 ⟨rfl, hx⟩; replace gg := gg.tr hx; replace hb := hb.keep hx; clear hx q0 q1 q2 q3 q4 q5; obtain ⟨q0, q1, q2, q3, q4, q5⟩ := hb.c6'))
    go_ret
    exact ⟨ret_bool HD2.out.symm, gg⟩

end Go.Proofs.Ytjdeojpapdphoaa

namespace Go.Proofs.Ytjdeojpapdphoaa
set_option linter.unusedVariables false
set_option linter.unusedSimpArgs false
open Go.RowKit

set_option maxRecDepth 100000 in
set_option maxHeartbeats 1000000 in
theorem refReadings_any (l : List Int) (d : Bool) (hd : inB 0 100000 l = d) (a : Option Addr) (cap : Nat) (w : World) (hr : IRow w a l) :
    Calls Try.prog 26 #[.slice a l.length cap] w fun e w' => e = .returned (.bool d) ∧ Gr w w' := by
  have hl0 := hr.1
  have HD := Lib.hid hd
  clear hd
  go_enter Try.func26, Try.ntmps26
  go_wp2
  go_loopw [3] (fun i wr => Hid (∃ k : Nat, k ≤ l.length ∧ i = .int .i64 k ∧ Gr w wr ∧ inB 0 100000 (l.take k) = true)) (fun i _ => l.length - (intOf i).toNat)
  case atStart => exact Lib.hid ⟨0, Nat.zero_le _, rfl, Below.refl _ _, by simp [inB]⟩
  case round =>
    obtain ⟨k, hk, rfl, gW, ht⟩ := hrel.out
    clear hrel
    by_cases hlt : k < l.length
    · obtain ⟨x, hx⟩ : ∃ x, l[k]? = some x := ⟨l[k], by simp [hlt]⟩
      obtain ⟨b1, o1, rfl, h1, cc⟩ := IRow.get (hr.grow gW) hx
      cases c : in1 0 100000 x with
      | true =>
        have hn : inB 0 100000 (l.take (k + 1)) = true := by
          rw [List.take_add_one, hx, Option.toList_some]
          unfold inB at ht ⊢
          rw [List.all_append, ht]
          simp [c]
        have HN := Lib.hid hn
        clear hn ht hx
        go_wp2_with (go_at_call 25; refine (refIn_any x 0 100000 true c _).mono ?_; rintro e w1 ⟨rfl, g1⟩)
        go_roundw
        case rel => exact Lib.hid ⟨k + 1, by omega, by go_num, gW.tr g1, HN.out⟩
        case measure => simp [intOf]; omega
      | false =>
        have E := Lib.hid (show d = false by
          rw [← HD.out]
          cases h : inB 0 100000 l with
          | false => rfl
          | true =>
            unfold inB at h
            rw [List.all_eq_true] at h
            rw [h x (List.mem_of_getElem? hx)] at c
            cases c)
        clear ht hx
        go_wp2_with (go_at_call 25; refine (refIn_any x 0 100000 false c _).mono ?_; rintro e w1 ⟨rfl, g1⟩)
        go_ret
        exact ⟨ret_bool E.out.symm, gW.tr g1⟩
    · obtain rfl : k = l.length := by omega
      rw [List.take_length] at ht
      have E := Lib.hid (show d = true by rw [← HD.out, ht])
      clear ht
      go_wp2
      go_ret
      exact ⟨ret_bool E.out.symm, gW⟩


set_option maxRecDepth 100000 in
set_option maxHeartbeats 1000000 in
theorem refPasses_any (te me lo ba : Int) (l : List Int) (hl : l.length ≤ 1000) (hB : ∀ x ∈ l, 0 ≤ x ∧ x ≤ 100000) (t0 : 0 ≤ te) (t1 : te ≤ 1000) (m0 : 0 ≤ me) (m1 : me ≤ 100000) (a : Option Addr) (cap : Nat) (w : World) (hr : IRow w a l) :
    Calls Try.prog 65 #[.agg #[.int .i64 te, .int .i64 me, .int .i64 lo, .int .i64 ba], .slice a l.length cap] w fun e w' => e = .returned (.bool (passB false te me lo ba (diag l))) ∧ Gr w w' := by
  have gg := Gr.al w (.cells #[.int .i64 te, .int .i64 me, .int .i64 lo, .int .i64 ba] 23)
  have hb := Box.new w [.int .i64 te, .int .i64 me, .int .i64 lo, .int .i64 ba] 23 w.heap.size rfl
  have HB := Lib.hid hb
  have GG := Lib.hid gg
  have HR := Lib.hid (hr.grow gg)
  have q0 : 0 ≤ te * me := Int.mul_nonneg t0 m0
  have q1 : te * me ≤ 1000 * 100000 := Int.mul_le_mul t1 m1 m0 (by omega)
  clear hb gg hr
  go_enter Try.func65, Try.ntmps65
  go_upto_region 2 with fail
  refine wp_abs (fun W => Gr (w.alloc (.cells #[.int .i64 te, .int .i64 me, .int .i64 lo, .int .i64 ba] 23)) W) (Below.refl _ _) ?_
  intro W hW
  go_wp2
  go_loopw [7, 5, 6] (fun t s b wr => Hid (∃ k : Nat, k ≤ l.length ∧ t = .int .i64 k ∧ Gr (w.alloc (.cells #[.int .i64 te, .int .i64 me, .int .i64 lo, .int .i64 ba] 23)) wr ∧ s = .int .i64 (sumS false (diag (l.take k))) ∧ b = .int .i64 (badS false lo (diag (l.take k))))) (fun t _ _ _ => l.length - (intOf t).toNat)
  case atStart => exact Lib.hid ⟨0, Nat.zero_le _, rfl, hW, rfl, rfl⟩
  case round =>
    obtain ⟨k, hk, rfl, gW, rfl, rfl⟩ := hrel.out
    clear hrel
    obtain ⟨x0, x1⟩ := sumS_bd false (diag (l.take k)) (diag_bd (fun x hx => hB x (List.mem_of_mem_take hx)))
    have x2 := badS_0 false lo (diag (l.take k))
    have x3 := badS_len false lo (diag (l.take k))
    have x4 : (diag (l.take k)).length = min k l.length := by simp [diag]
    obtain ⟨p0, p1, p2, p3⟩ := (HB.out.keep gW).c4'
    by_cases hlt : k < l.length
    · obtain ⟨x, hx⟩ : ∃ x, l[k]? = some x := ⟨l[k], by simp [hlt]⟩
      obtain ⟨y0, y1⟩ := hB x (List.mem_of_getElem? hx)
      obtain ⟨b1, o1, rfl, h1, cc⟩ := IRow.get (HR.out.grow gW) hx
      have hs : sumS false (diag (l.take (k + 1))) = sumS false (diag (l.take k)) + x := by
        rw [List.take_add_one, hx, Option.toList_some, diag_app, sumS_app]
        simp
      have hd : badS false lo (diag (l.take (k + 1))) = badS false lo (diag (l.take k)) + if x < lo then 1 else 0 := by
        rw [List.take_add_one, hx, Option.toList_some, diag_app, badS_app]
        simp
      rw [x4] at x1 x3
      have HS := Lib.hid hs
      have HD := Lib.hid hd
      generalize sumS false (diag (l.take k)) = S at *
      generalize badS false lo (diag (l.take k)) = B at *
      clear hs hd hx x4
      by_cases hlo : x < lo
      · go_upto_region 6 with fail
        go_quiet (fail)
        go_wp2
        go_roundw
        case rel => exact Lib.hid ⟨k + 1, by omega, by go_num, gW.drewN _, by rw [HS.out], by rw [HD.out, if_pos hlo]⟩
        case measure => simp [intOf]; omega
      · go_upto_region 6 with fail
        go_quiet (fail)
        go_wp2
        go_roundw
        case rel => exact Lib.hid ⟨k + 1, by omega, by go_num, gW.drewN _, by rw [HS.out], by rw [HD.out, if_neg hlo, Int.add_zero]⟩
        case measure => simp [intOf]; omega
    · obtain rfl : k = l.length := by omega
      rw [List.take_length] at *
      have E0 : passB false te me lo ba (diag l) = (decide (badS false lo (diag l) ≤ ba) && decide (te * me ≤ sumS false (diag l))) := rfl
      generalize sumS false (diag l) = S at *
      generalize badS false lo (diag l) = B at *
      by_cases hm : te * me ≤ S
      · have E := Lib.hid (E0.trans (show (decide (B ≤ ba) && decide (te * me ≤ S)) = decide (B ≤ ba) by simp [hm]))
        clear E0
        go_wp2
        go_ret
        exact ⟨ret_bool E.out.symm, GG.out.tr gW⟩
      · have E := Lib.hid (E0.trans (show (decide (B ≤ ba) && decide (te * me ≤ S)) = false by simp [hm]))
        have hm' : decide (te * me ≤ S) = false := by simpa using hm
        clear E0
        go_wp2
        go_ret
        exact ⟨ret_bool E.out.symm, GG.out.tr gW⟩

set_option maxRecDepth 100000 in
set_option maxHeartbeats 2000000 in
theorem refRule_any (te me lo ba off : Int) (l : List Int) (R : Int) (hR : ruleL te me lo ba off l = R) (a : Option Addr) (cap : Nat) (w : World) (hr : IRow w a l) :
    Calls Try.prog 21 #[.agg #[.int .i64 te, .int .i64 me, .int .i64 lo, .int .i64 ba], .slice a l.length cap, .int .i64 off] w fun e w' => e = .returned (.int .i64 R) ∧ Gr w w' := by
  have gg := Gr.al w (.cells #[.int .i64 te, .int .i64 me, .int .i64 lo, .int .i64 ba] 23)
  have hb := Box.new w [.int .i64 te, .int .i64 me, .int .i64 lo, .int .i64 ba] 23 w.heap.size rfl
  obtain ⟨q0, q1, q2, q3⟩ := hb.c4'
  have r1 := hr.grow gg
  have tok0 : True := trivial
  have tok1 : True := trivial
  have tok2 : True := trivial
  have tok3 : True := trivial
  have hok : ruleOk te me lo ba = (in1 1 20 te && in1 0 100000 me && in1 0 100000 lo && in1 0 te ba) := by simp [ruleOk, inB, Bool.and_assoc]
  have hof : inB 0 1000 [off] = in1 0 1000 off := by simp [inB]
  unfold ruleL at hR
  rw [hok, hof] at hR
  clear hok hof hr
  cases c0 : in1 1 20 te with
  | false =>
    obtain rfl : R = 2 := by rw [← hR]; simp [c0]
    clear hR
    go_enter Try.func21, Try.ntmps21
    go_wp2_with (first
      | (have _t := tok0; clear tok0 _t; go_at_call 25; refine (refIn_any te 1 20 _ c0 _).mono ?_; rintro e w1 ⟨rfl, hx⟩; replace gg := gg.tr hx; replace hb := hb.keep hx; replace r1 := r1.grow hx; clear hx q0 q1 q2 q3; obtain ⟨q0, q1, q2, q3⟩ := hb.c4'))
    go_ret
    exact ⟨rfl, gg⟩
  | true =>
    cases c1 : in1 0 100000 me with
    | false =>
      obtain rfl : R = 2 := by rw [← hR]; simp [c0, c1]
      clear hR
      go_enter Try.func21, Try.ntmps21
      go_wp2_with (first
        | (have _t := tok0; clear tok0 _t; go_at_call 25; refine (refIn_any te 1 20 _ c0 _).mono ?_; rintro e w1 ⟨rfl, hx⟩; replace gg := gg.tr hx; replace hb := hb.keep hx; replace r1 := r1.grow hx; clear hx q0 q1 q2 q3; obtain ⟨q0, q1, q2, q3⟩ := hb.c4')
        | (have _t := tok1; clear tok1 _t; go_at_call 25; refine (refIn_any me 0 100000 _ c1 _).mono ?_; rintro e w1 ⟨rfl, hx⟩; replace gg := gg.tr hx; replace hb := hb.keep hx; replace r1 := r1.grow hx; clear hx q0 q1 q2 q3; obtain ⟨q0, q1, q2, q3⟩ := hb.c4'))
      go_ret
      exact ⟨rfl, gg⟩
    | true =>
      cases c2 : in1 0 100000 lo with
      | false =>
        obtain rfl : R = 2 := by rw [← hR]; simp [c0, c1, c2]
        clear hR
        go_enter Try.func21, Try.ntmps21
        go_wp2_with (first
          | (have _t := tok0; clear tok0 _t; go_at_call 25; refine (refIn_any te 1 20 _ c0 _).mono ?_; rintro e w1 ⟨rfl, hx⟩; replace gg := gg.tr hx; replace hb := hb.keep hx; replace r1 := r1.grow hx; clear hx q0 q1 q2 q3; obtain ⟨q0, q1, q2, q3⟩ := hb.c4')
          | (have _t := tok1; clear tok1 _t; go_at_call 25; refine (refIn_any me 0 100000 _ c1 _).mono ?_; rintro e w1 ⟨rfl, hx⟩; replace gg := gg.tr hx; replace hb := hb.keep hx; replace r1 := r1.grow hx; clear hx q0 q1 q2 q3; obtain ⟨q0, q1, q2, q3⟩ := hb.c4')
          | (have _t := tok2; clear tok2 _t; go_at_call 25; refine (refIn_any lo 0 100000 _ c2 _).mono ?_; rintro e w1 ⟨rfl, hx⟩; replace gg := gg.tr hx; replace hb := hb.keep hx; replace r1 := r1.grow hx; clear hx q0 q1 q2 q3; obtain ⟨q0, q1, q2, q3⟩ := hb.c4'))
        go_ret
        exact ⟨rfl, gg⟩
      | true =>
        cases c3 : in1 0 te ba with
        | false =>
          obtain rfl : R = 2 := by rw [← hR]; simp [c0, c1, c2, c3]
          clear hR
          go_enter Try.func21, Try.ntmps21
          go_wp2_with (first
            | (have _t := tok0; clear tok0 _t; go_at_call 25; refine (refIn_any te 1 20 _ c0 _).mono ?_; rintro e w1 ⟨rfl, hx⟩; replace gg := gg.tr hx; replace hb := hb.keep hx; replace r1 := r1.grow hx; clear hx q0 q1 q2 q3; obtain ⟨q0, q1, q2, q3⟩ := hb.c4')
            | (have _t := tok1; clear tok1 _t; go_at_call 25; refine (refIn_any me 0 100000 _ c1 _).mono ?_; rintro e w1 ⟨rfl, hx⟩; replace gg := gg.tr hx; replace hb := hb.keep hx; replace r1 := r1.grow hx; clear hx q0 q1 q2 q3; obtain ⟨q0, q1, q2, q3⟩ := hb.c4')
            | (have _t := tok2; clear tok2 _t; go_at_call 25; refine (refIn_any lo 0 100000 _ c2 _).mono ?_; rintro e w1 ⟨rfl, hx⟩; replace gg := gg.tr hx; replace hb := hb.keep hx; replace r1 := r1.grow hx; clear hx q0 q1 q2 q3; obtain ⟨q0, q1, q2, q3⟩ := hb.c4')
            | (have _t := tok3; clear tok3 _t; go_at_call 25; refine (refIn_any ba 0 te _ c3 _).mono ?_; rintro e w1 ⟨rfl, hx⟩; replace gg := gg.tr hx; replace hb := hb.keep hx; replace r1 := r1.grow hx; clear hx q0 q1 q2 q3; obtain ⟨q0, q1, q2, q3⟩ := hb.c4'))
          go_ret
          exact ⟨rfl, gg⟩
        | true =>
          cases c4 : in1 0 1000 off with
          | false =>
            obtain rfl : R = 3 := by rw [← hR]; simp [c0, c1, c2, c3, c4]
            clear hR
            go_enter Try.func21, Try.ntmps21
            go_wp2_with (first
              | (have _t := tok0; clear tok0 _t; go_at_call 25; refine (refIn_any te 1 20 _ c0 _).mono ?_; rintro e w1 ⟨rfl, hx⟩; replace gg := gg.tr hx; replace hb := hb.keep hx; replace r1 := r1.grow hx; clear hx q0 q1 q2 q3; obtain ⟨q0, q1, q2, q3⟩ := hb.c4')
              | (have _t := tok1; clear tok1 _t; go_at_call 25; refine (refIn_any me 0 100000 _ c1 _).mono ?_; rintro e w1 ⟨rfl, hx⟩; replace gg := gg.tr hx; replace hb := hb.keep hx; replace r1 := r1.grow hx; clear hx q0 q1 q2 q3; obtain ⟨q0, q1, q2, q3⟩ := hb.c4')
              | (have _t := tok2; clear tok2 _t; go_at_call 25; refine (refIn_any lo 0 100000 _ c2 _).mono ?_; rintro e w1 ⟨rfl, hx⟩; replace gg := gg.tr hx; replace hb := hb.keep hx; replace r1 := r1.grow hx; clear hx q0 q1 q2 q3; obtain ⟨q0, q1, q2, q3⟩ := hb.c4')
              | (have _t := tok3; clear tok3 _t; go_at_call 25; refine (refIn_any ba 0 te _ c3 _).mono ?_; rintro e w1 ⟨rfl, hx⟩; replace gg := gg.tr hx; replace hb := hb.keep hx; replace r1 := r1.grow hx; clear hx q0 q1 q2 q3; obtain ⟨q0, q1, q2, q3⟩ := hb.c4')
              | (go_at_call 25; refine (refIn_any off 0 1000 _ c4 _).mono ?_; rintro e w1 ⟨rfl, hx⟩; replace gg := gg.tr hx; replace hb := hb.keep hx; replace r1 := r1.grow hx; clear hx q0 q1 q2 q3; obtain ⟨q0, q1, q2, q3⟩ := hb.c4'))
            go_ret
            exact ⟨rfl, gg⟩
          | true =>
            by_cases c5 : te < (l.length : Int)
            · have c5d : decide (te < (l.length : Int)) = true := by simpa using c5
              obtain rfl : R = 5 := by rw [← hR]; simp [c0, c1, c2, c3, c4, c5]
              clear hR
              go_enter Try.func21, Try.ntmps21
              go_wp2_with (first
                | (have _t := tok0; clear tok0 _t; go_at_call 25; refine (refIn_any te 1 20 _ c0 _).mono ?_; rintro e w1 ⟨rfl, hx⟩; replace gg := gg.tr hx; replace hb := hb.keep hx; replace r1 := r1.grow hx; clear hx q0 q1 q2 q3; obtain ⟨q0, q1, q2, q3⟩ := hb.c4')
                | (have _t := tok1; clear tok1 _t; go_at_call 25; refine (refIn_any me 0 100000 _ c1 _).mono ?_; rintro e w1 ⟨rfl, hx⟩; replace gg := gg.tr hx; replace hb := hb.keep hx; replace r1 := r1.grow hx; clear hx q0 q1 q2 q3; obtain ⟨q0, q1, q2, q3⟩ := hb.c4')
                | (have _t := tok2; clear tok2 _t; go_at_call 25; refine (refIn_any lo 0 100000 _ c2 _).mono ?_; rintro e w1 ⟨rfl, hx⟩; replace gg := gg.tr hx; replace hb := hb.keep hx; replace r1 := r1.grow hx; clear hx q0 q1 q2 q3; obtain ⟨q0, q1, q2, q3⟩ := hb.c4')
                | (have _t := tok3; clear tok3 _t; go_at_call 25; refine (refIn_any ba 0 te _ c3 _).mono ?_; rintro e w1 ⟨rfl, hx⟩; replace gg := gg.tr hx; replace hb := hb.keep hx; replace r1 := r1.grow hx; clear hx q0 q1 q2 q3; obtain ⟨q0, q1, q2, q3⟩ := hb.c4')
                | (go_at_call 25; refine (refIn_any off 0 1000 _ c4 _).mono ?_; rintro e w1 ⟨rfl, hx⟩; replace gg := gg.tr hx; replace hb := hb.keep hx; replace r1 := r1.grow hx; clear hx q0 q1 q2 q3; obtain ⟨q0, q1, q2, q3⟩ := hb.c4'))
              go_ret
              exact ⟨rfl, gg⟩
            · have c5d : decide (te < (l.length : Int)) = false := by simpa using c5
              cases c6 : inB 0 100000 l with
              | false =>
                obtain rfl : R = 4 := by rw [← hR]; simp [c0, c1, c2, c3, c4, c5, c6]
                clear hR
                go_enter Try.func21, Try.ntmps21
                go_wp2_with (first
                  | (have _t := tok0; clear tok0 _t; go_at_call 25; refine (refIn_any te 1 20 _ c0 _).mono ?_; rintro e w1 ⟨rfl, hx⟩; replace gg := gg.tr hx; replace hb := hb.keep hx; replace r1 := r1.grow hx; clear hx q0 q1 q2 q3; obtain ⟨q0, q1, q2, q3⟩ := hb.c4')
                  | (have _t := tok1; clear tok1 _t; go_at_call 25; refine (refIn_any me 0 100000 _ c1 _).mono ?_; rintro e w1 ⟨rfl, hx⟩; replace gg := gg.tr hx; replace hb := hb.keep hx; replace r1 := r1.grow hx; clear hx q0 q1 q2 q3; obtain ⟨q0, q1, q2, q3⟩ := hb.c4')
                  | (have _t := tok2; clear tok2 _t; go_at_call 25; refine (refIn_any lo 0 100000 _ c2 _).mono ?_; rintro e w1 ⟨rfl, hx⟩; replace gg := gg.tr hx; replace hb := hb.keep hx; replace r1 := r1.grow hx; clear hx q0 q1 q2 q3; obtain ⟨q0, q1, q2, q3⟩ := hb.c4')
                  | (have _t := tok3; clear tok3 _t; go_at_call 25; refine (refIn_any ba 0 te _ c3 _).mono ?_; rintro e w1 ⟨rfl, hx⟩; replace gg := gg.tr hx; replace hb := hb.keep hx; replace r1 := r1.grow hx; clear hx q0 q1 q2 q3; obtain ⟨q0, q1, q2, q3⟩ := hb.c4')
                  | (go_at_call 25; refine (refIn_any off 0 1000 _ c4 _).mono ?_; rintro e w1 ⟨rfl, hx⟩; replace gg := gg.tr hx; replace hb := hb.keep hx; replace r1 := r1.grow hx; clear hx q0 q1 q2 q3; obtain ⟨q0, q1, q2, q3⟩ := hb.c4')
                  | (go_at_call 26; refine (refReadings_any l _ c6 a cap _ r1).mono ?_; rintro e w2 ⟨rfl, hx⟩; replace gg := gg.tr hx))
                go_ret
                exact ⟨rfl, gg⟩
              | true =>
                obtain rfl : R = 0 := by rw [← hR]; simp [c0, c1, c2, c3, c4, c5, c6]
                clear hR
                go_enter Try.func21, Try.ntmps21
                go_wp2_with (first
                  | (have _t := tok0; clear tok0 _t; go_at_call 25; refine (refIn_any te 1 20 _ c0 _).mono ?_; rintro e w1 ⟨rfl, hx⟩; replace gg := gg.tr hx; replace hb := hb.keep hx; replace r1 := r1.grow hx; clear hx q0 q1 q2 q3; obtain ⟨q0, q1, q2, q3⟩ := hb.c4')
                  | (have _t := tok1; clear tok1 _t; go_at_call 25; refine (refIn_any me 0 100000 _ c1 _).mono ?_; rintro e w1 ⟨rfl, hx⟩; replace gg := gg.tr hx; replace hb := hb.keep hx; replace r1 := r1.grow hx; clear hx q0 q1 q2 q3; obtain ⟨q0, q1, q2, q3⟩ := hb.c4')
                  | (have _t := tok2; clear tok2 _t; go_at_call 25; refine (refIn_any lo 0 100000 _ c2 _).mono ?_; rintro e w1 ⟨rfl, hx⟩; replace gg := gg.tr hx; replace hb := hb.keep hx; replace r1 := r1.grow hx; clear hx q0 q1 q2 q3; obtain ⟨q0, q1, q2, q3⟩ := hb.c4')
                  | (have _t := tok3; clear tok3 _t; go_at_call 25; refine (refIn_any ba 0 te _ c3 _).mono ?_; rintro e w1 ⟨rfl, hx⟩; replace gg := gg.tr hx; replace hb := hb.keep hx; replace r1 := r1.grow hx; clear hx q0 q1 q2 q3; obtain ⟨q0, q1, q2, q3⟩ := hb.c4')
                  | (go_at_call 25; refine (refIn_any off 0 1000 _ c4 _).mono ?_; rintro e w1 ⟨rfl, hx⟩; replace gg := gg.tr hx; replace hb := hb.keep hx; replace r1 := r1.grow hx; clear hx q0 q1 q2 q3; obtain ⟨q0, q1, q2, q3⟩ := hb.c4')
                  | (go_at_call 26; refine (refReadings_any l _ c6 a cap _ r1).mono ?_; rintro e w2 ⟨rfl, hx⟩; replace gg := gg.tr hx))
                go_ret
                exact ⟨rfl, gg⟩

set_option maxRecDepth 100000 in
theorem decide_err (te me lo ba off : Int) (l : List Int) (R : Int) (hR : ruleL te me lo ba off l = R) (h0 : R ≠ 0) (a : Option Addr) (cap : Nat) (w : World) (hr : IRow w a l) :
    Calls Try.prog 19 #[.agg #[.int .i64 te, .int .i64 me, .int .i64 lo, .int .i64 ba], .slice a l.length cap, .int .i64 off] w fun e w' => e = .returned (.tuple #[.int .i64 0, .int .i64 R]) ∧ Gr w w' := by
  have hc : ∀ W, Gr w W → Calls Try.prog 18 #[.agg #[.int .i64 te, .int .i64 me, .int .i64 lo, .int .i64 ba], .slice a l.length cap, .int .i64 off] W fun e w' => e = .returned (.int .i64 R) ∧ Gr W w' := fun W g => by
    have := rule_any te me lo ba off l a cap W (hr.grow g)
    rw [hR] at this
    exact this
  have HC := Lib.hid hc
  have hb := Box.new w [.int .i64 te, .int .i64 me, .int .i64 lo, .int .i64 ba] 23 w.heap.size rfl
  have gg := Gr.al w (.cells #[.int .i64 te, .int .i64 me, .int .i64 lo, .int .i64 ba] 23)
  obtain ⟨q0, q1, q2, q3⟩ := hb.c4'
  have hn : (R != 0) = true := by simpa using h0
  clear hR hc h0
  go_enter Try.func19, Try.ntmps19
  go_wp2_with (go_at_call 18; refine (HC.out _ gg).mono ?_; rintro e w1 ⟨rfl, g1⟩)
  go_ret2
  exact ⟨rfl, gg.tr g1⟩

set_option maxRecDepth 100000 in
theorem need_err (te me lo ba off : Int) (l : List Int) (R : Int) (hR : ruleL te me lo ba off l = R) (h0 : R ≠ 0) (a : Option Addr) (cap : Nat) (w : World) (hr : IRow w a l) :
    Calls Try.prog 20 #[.agg #[.int .i64 te, .int .i64 me, .int .i64 lo, .int .i64 ba], .slice a l.length cap, .int .i64 off] w fun e w' => e = .returned (.tuple #[.int .i64 0, .int .i64 0, .int .i64 R]) ∧ Gr w w' := by
  have hc : ∀ W, Gr w W → Calls Try.prog 18 #[.agg #[.int .i64 te, .int .i64 me, .int .i64 lo, .int .i64 ba], .slice a l.length cap, .int .i64 off] W fun e w' => e = .returned (.int .i64 R) ∧ Gr W w' := fun W g => by
    have := rule_any te me lo ba off l a cap W (hr.grow g)
    rw [hR] at this
    exact this
  have HC := Lib.hid hc
  have hb := Box.new w [.int .i64 te, .int .i64 me, .int .i64 lo, .int .i64 ba] 23 w.heap.size rfl
  have gg := Gr.al w (.cells #[.int .i64 te, .int .i64 me, .int .i64 lo, .int .i64 ba] 23)
  obtain ⟨q0, q1, q2, q3⟩ := hb.c4'
  have hn : (R != 0) = true := by simpa using h0
  clear hR hc h0
  go_enter Try.func20, Try.ntmps20
  go_wp2_with (go_at_call 18; refine (HC.out _ gg).mono ?_; rintro e w1 ⟨rfl, g1⟩)
  exact bodyPost_ret (v := .tuple #[.int .i64 0, .int .i64 0, .int .i64 R]) (by simp [results, Try.results20, go_sem]) rfl ⟨rfl, gg.tr g1⟩

end Go.Proofs.Ytjdeojpapdphoaa

namespace Go.Proofs.Ytjdeojpapdphoaa
set_option linter.unusedVariables false
set_option linter.unusedSimpArgs false
open Go.RowKit

set_option maxRecDepth 100000 in
set_option maxHeartbeats 2000000 in
theorem refBoxes_any (l : List Ld) (d : Bool) (hd : l.all okLd = d) (a : Option Addr) (cap : Nat) (w : World) (hr : LRow w a l) :
    Calls Try.prog 78 #[.slice a l.length cap] w fun e w' => e = .returned (.bool d) ∧ Gr w w' := by
  have hl0 := hr.1
  have HD := Lib.hid hd
  clear hd
  go_enter Try.func78, Try.ntmps78
  go_wp2
  go_loopw [3] (fun i wr => Hid (∃ k : Nat, k ≤ l.length ∧ i = .int .i64 k ∧ Gr w wr ∧ (l.take k).all okLd = true)) (fun i _ => l.length - (intOf i).toNat)
  case atStart => exact Lib.hid ⟨0, Nat.zero_le _, rfl, Below.refl _ _, by simp⟩
  case round =>
    obtain ⟨k, hk, rfl, gW, ht⟩ := hrel.out
    clear hrel
    by_cases hlt : k < l.length
    · obtain ⟨⟨sl, sh, wl, wh⟩, hx⟩ : ∃ x, l[k]? = some x := ⟨l[k], by simp [hlt]⟩
      have hrr := hr.grow gW
      obtain ⟨b1, o1, rfl, h1, q0, q1, q2, q3⟩ := LRow.get hrr hx
      dsimp only at q0 q1 q2 q3
      have hok : okLd ⟨sl, sh, wl, wh⟩ = (okSpan 0 20000000 sl sh && okSpan 0 100000 wl wh) := rfl
      have hsome : (some (⟨b1, o1, none⟩ : Addr)) = some ⟨b1, o1, none⟩ := rfl
      have tok0 : True := trivial
      cases c0 : okSpan 0 20000000 sl sh with
      | false =>
        have E := Lib.hid (show d = false by
          rw [← HD.out]
          cases h : l.all okLd with
          | false => rfl
          | true =>
            rw [List.all_eq_true] at h
            have := h _ (List.mem_of_getElem? hx)
            rw [hok, c0] at this
            cases this)
        clear ht hx hok
        go_wp2_with (go_at_call 72; refine (refSpan_any sl sh 0 20000000 false c0 _).mono ?_; rintro e w1 ⟨rfl, g1⟩)
        go_ret
        exact ⟨ret_bool E.out.symm, gW.tr g1⟩
      | true =>
        cases c1 : okSpan 0 100000 wl wh with
        | false =>
          have E := Lib.hid (show d = false by
            rw [← HD.out]
            cases h : l.all okLd with
            | false => rfl
            | true =>
              rw [List.all_eq_true] at h
              have := h _ (List.mem_of_getElem? hx)
              rw [hok, c0, c1] at this
              cases this)
          clear ht hx hok
          go_wp2_with (first
            | (have _t := tok0; clear tok0 _t; go_at_call 72; refine (refSpan_any sl sh 0 20000000 true c0 _).mono ?_; rintro e w1 ⟨rfl, g1⟩; have t2 := g1.keep q2; have t3 := g1.keep q3)
            | (go_at_call 72; refine (refSpan_any wl wh 0 100000 false c1 _).mono ?_; rintro e w2 ⟨rfl, g2⟩))
          go_ret
          exact ⟨ret_bool E.out.symm, gW.tr (g1.tr g2)⟩
        | true =>
          have hn : (l.take (k + 1)).all okLd = true := by
            rw [List.take_add_one, hx, Option.toList_some, List.all_append, ht]
            simp [hok, c0, c1]
          have HN := Lib.hid hn
          clear hn ht hx hok
          go_wp2_with (first
            | (have _t := tok0; clear tok0 _t; go_at_call 72; refine (refSpan_any sl sh 0 20000000 true c0 _).mono ?_; rintro e w1 ⟨rfl, g1⟩; have t2 := g1.keep q2; have t3 := g1.keep q3)
            | (go_at_call 72; refine (refSpan_any wl wh 0 100000 true c1 _).mono ?_; rintro e w2 ⟨rfl, g2⟩))
          go_roundw
          case rel => exact Lib.hid ⟨k + 1, by omega, by go_num, gW.tr (g1.tr g2), HN.out⟩
          case measure => simp [intOf]; omega
    · obtain rfl : k = l.length := by omega
      rw [List.take_length] at ht
      have E := Lib.hid (show d = true by rw [← HD.out, ht])
      clear ht
      go_wp2
      go_ret
      exact ⟨ret_bool E.out.symm, gW⟩

set_option maxRecDepth 100000 in
theorem refStack_any (most : Int) (l : List Ld) (R : Int) (hR : boxedL most l = R) (a : Option Addr) (cap : Nat) (w : World) (hr : LRow w a l) :
    Calls Try.prog 39 #[.slice a l.length cap, .int .i64 most] w fun e w' => e = .returned (.int .i64 R) ∧ Gr w w' := by
  unfold boxedL at hR
  by_cases c : most < (l.length : Int)
  · have d0 : decide (most < (l.length : Int)) = true := by simpa using c
    obtain rfl : R = 5 := by rw [← hR, if_pos c]
    clear hR
    go_enter Try.func39, Try.ntmps39
    go_wp2
    go_ret
    exact ⟨rfl, Below.refl _ _⟩
  · have d0 : decide (most < (l.length : Int)) = false := by simpa using c
    rw [if_neg c] at hR
    cases h : l.all okLd with
    | false =>
      obtain rfl : R = 2 := by rw [← hR, if_pos h]
      clear hR
      go_enter Try.func39, Try.ntmps39
      go_wp2_with (go_at_call 78; refine (refBoxes_any l false h a cap _ hr).mono ?_; rintro e w1 ⟨rfl, g1⟩)
      go_ret
      exact ⟨rfl, g1⟩
    | true =>
      obtain rfl : R = 0 := by rw [← hR, if_neg (by rw [h]; decide)]
      clear hR
      go_enter Try.func39, Try.ntmps39
      go_wp2_with (go_at_call 78; refine (refBoxes_any l true h a cap _ hr).mono ?_; rintro e w1 ⟨rfl, g1⟩)
      go_ret
      exact ⟨rfl, g1⟩

end Go.Proofs.Ytjdeojpapdphoaa

namespace Go.Proofs.Ytjdeojpapdphoaa
set_option linter.unusedVariables false
set_option linter.unusedSimpArgs false
open Go.RowKit

set_option maxRecDepth 100000 in
set_option maxHeartbeats 1000000 in
theorem refKept_any (t : List Stp) (day : Int) (ta : Option Addr) (tc : Nat) (w : World) (rt : TRow w ta t) :
    Calls Try.prog 80 #[.slice ta t.length tc, .int .i64 day] w fun e w' => e = .returned (.int .i64 (keptTo t day t.length)) ∧ Gr w w' := by
  have ht0 := rt.1
  go_enter Try.func80, Try.ntmps80
  go_wp2
  go_loopw [6, 5] (fun i q wr => Hid (∃ k : Nat, k ≤ t.length ∧ i = .int .i64 k ∧ q = .int .i64 (keptTo t day k) ∧ Gr w wr)) (fun i _ _ => t.length - (intOf i).toNat)
  case atStart => exact Lib.hid ⟨0, Nat.zero_le _, rfl, rfl, Below.refl _ _⟩
  case round =>
    obtain ⟨k, hk, rfl, rfl, gW⟩ := hrel.out
    clear hrel
    by_cases hlt : k < t.length
    · obtain ⟨⟨sd, sk⟩, hx⟩ : ∃ s, t[k]? = some s := ⟨t[k], by simp [hlt]⟩
      obtain ⟨b1, o1, rfl, h1, c0, c1⟩ := TRow.get (rt.grow gW) hx
      dsimp only at c0 c1
      have hn1 := keptTo_succ (day := day) hx
      dsimp only at hn1
      by_cases hd : sd ≤ day
      · rw [if_pos hd] at hn1
        have HN := Lib.hid hn1
        clear hn1 hx
        go_wp2
        go_roundw
        case rel => exact Lib.hid ⟨k + 1, by omega, by go_num, by rw [HN.out], gW⟩
        case measure => simp [intOf]; omega
      · rw [if_neg hd] at hn1
        have HN := Lib.hid hn1
        have hd2 : decide (sd ≤ day) = false := by simpa using hd
        clear hn1 hx
        go_wp2
        go_roundw
        case rel => exact Lib.hid ⟨k + 1, by omega, by go_num, by rw [HN.out], gW⟩
        case measure => simp [intOf]; omega
    · obtain rfl : k = t.length := by omega
      clear hlt hk
      go_wp2
      go_ret
      exact ⟨rfl, gW⟩

theorem sums_bd {l : List Ld} (hl : ∀ x ∈ l, LdOk x) : 0 ≤ sumLo l ∧ sumLo l ≤ 1000000000 * (l.length : Int) ∧ 0 ≤ sumHi l ∧ sumHi l ≤ 1000000000 * (l.length : Int) := by
  induction l with
  | nil => simp [sumLo, sumHi]
  | cons x l ih =>
    have h1 := ih (fun y hy => hl y (List.mem_cons_of_mem _ hy))
    obtain ⟨⟨a, b, c, d⟩, _⟩ := hl x List.mem_cons_self
    simp only [sumLo, sumHi, List.length_cons]
    omega

theorem sums_at {l : List Ld} {a n : Nat} {x : Ld} (h : l[a + n]? = some x) : sumLo ((l.drop a).take (n + 1)) = sumLo ((l.drop a).take n) + x.wl ∧ sumHi ((l.drop a).take (n + 1)) = sumHi ((l.drop a).take n) + x.wh :=
  sum_take (by rw [List.getElem?_drop]; exact h)

/-- The lowest box that does not hold, or -1. -/
def failI (l : List Ld) (q : Int) : Int := match weakO l q with | some k => (k : Int) | none => -1

theorem fieldSpan_1 (a b : Value) (w : World) : (Instr.field 45 (.agg #[a, b]) 1).run Try.prog w = .ok b w := by kernel_rfl

def LoadHeld (b5 rb ro : Nat) (lo hi wl wh : Int) (u : World) : Prop := u.cell? ⟨b5, 0, none⟩ = some (.int .i64 lo) ∧ u.cell? ⟨b5, 1, none⟩ = some (.int .i64 hi) ∧ u.cell? ⟨rb, ro + 2, none⟩ = some (.int .i64 wl) ∧ u.cell? ⟨rb, ro + 3, none⟩ = some (.int .i64 wh)

set_option maxRecDepth 100000 in
set_option maxHeartbeats 2000000 in
theorem refLoad_any (l : List Ld) (hl : ∀ x ∈ l, LdOk x) (hn : l.length ≤ 100) (i : Nat) (hi : i ≤ l.length) (a : Option Addr) (cap : Nat) (w : World) (hr : LRow w a l) :
    Calls Try.prog 40 #[.slice a l.length cap, .int .i64 (i : Int)] w fun e w' => e = .returned (.agg #[.int .i64 (sumLo (l.drop (i + 1))), .int .i64 (sumHi (l.drop (i + 1)))]) ∧ Gr w w' := by
  have hl0 := hr.1
  have HL := Lib.hid hl
  clear hl
  have w0 : IntKind.i64.wrap ((i : Int) + 1) = (i : Int) + 1 := IntWalk.i64_in _ (by omega)
  have gg := (Gr.al w (.cells #[.int .i64 0, .int .i64 0] 45)).tr (Gr.al _ (.cells #[.int .i64 0, .int .i64 0] 45))
  have o4 := (Own.new w [.int .i64 0, .int .i64 0] 45 w.heap.size rfl).keep (Gr.al _ (.cells #[.int .i64 0, .int .i64 0] 45))
  have o5 := Own.new (w.alloc (.cells #[.int .i64 0, .int .i64 0] 45)) [.int .i64 0, .int .i64 0] 45 (w.heap.size + 1) (by simp)
  go_enter Try.func40, Try.ntmps40
  go_upto_region 2 with fail
  refine wp_abs (fun U => Gr w U ∧ Own U w.heap.size [.int .i64 0, .int .i64 0] ∧ Own U (w.heap.size + 1) [.int .i64 0, .int .i64 0]) ⟨gg, o4, o5⟩ ?_
  clear gg o4 o5
  rintro U ⟨gg, o4, o5⟩
  go_wp2
  go_loopw [6] (fun q wr => Hid (∃ n : Nat, (n = 0 ∨ i + 1 + n ≤ l.length) ∧ q = .int .i64 ((i + 1 + n : Nat) : Int) ∧ Gr w wr ∧ Own wr w.heap.size [.int .i64 0, .int .i64 0] ∧ Own wr (w.heap.size + 1) [.int .i64 (sumLo ((l.drop (i + 1)).take n)), .int .i64 (sumHi ((l.drop (i + 1)).take n))])) (fun q _ => l.length - (intOf q).toNat)
  case atStart => exact Lib.hid ⟨0, .inl rfl, by go_num, gg, o4, o5⟩
  case round =>
    clear gg o4 o5
    obtain ⟨n, hn', rfl, gW, o4, o5⟩ := hrel.out
    clear hrel
    obtain ⟨M, hM⟩ : ∃ M, i + 1 + n = M := ⟨_, rfl⟩
    by_cases hlt : M < l.length
    · obtain ⟨⟨sl, sh, wl, wh⟩, hx⟩ : ∃ x, l[M]? = some x := ⟨l[M], by simp [hlt]⟩
      have hok := (HL.out _ (List.mem_of_getElem? hx)).1
      obtain ⟨h1, h2, h3, h4⟩ := hok
      dsimp only at h1 h2 h3 h4
      obtain ⟨e1, e2⟩ := sums_at (l := l) (a := i + 1) (n := n) (by rw [hM]; exact hx)
      have hb := sums_bd (l := (l.drop (i + 1)).take n) (fun x hx => HL.out x (List.mem_of_mem_drop (List.mem_of_mem_take hx)))
      have hb2 : ((l.drop (i + 1)).take n).length ≤ 100 := by simp; omega
      dsimp only at e1 e2
      obtain ⟨b1, of1, rfl, _, q0, q1, q2, q3⟩ := LRow.get (hr.grow gW) hx
      dsimp only at q2 q3
      clear hx q0 q1
      have HE1 := Lib.hid e1
      have HE2 := Lib.hid e2
      clear e1 e2
      generalize sumLo ((l.drop (i + 1)).take n) = lo at *
      generalize sumHi ((l.drop (i + 1)).take n) = hi' at *
      rw [hM]
      have w1 : IntKind.i64.wrap (lo + wl) = lo + wl := IntWalk.i64_in _ (by omega)
      have w2 : IntKind.i64.wrap (hi' + wh) = hi' + wh := IntWalk.i64_in _ (by omega)
      have hM2 : i + 1 + n ≤ M ∧ M ≤ i + 1 + n := by omega
      clear hM hb hb2
      obtain ⟨t0, t1⟩ := o5.1.c2
      have gD := Gr.dr wr
      have hF : LoadHeld (w.heap.size + 1) b1 (of1 + M * 4) lo hi' wl wh wr.drew := ⟨gD.keep t0, gD.keep t1, gD.keep q2, gD.keep q3⟩
      haveI : Nonempty (AtW (LoadHeld (w.heap.size + 1) b1 (of1 + M * 4) lo hi' wl wh)) := ⟨⟨_, hF⟩⟩
      have x0_ : ∀ u : AtW (LoadHeld (w.heap.size + 1) b1 (of1 + M * 4) lo hi' wl wh), u.val.cell? ⟨w.heap.size + 1, 0, none⟩ = some (.int .i64 lo) := fun u => u.property.1
      have x1_ : ∀ u : AtW (LoadHeld (w.heap.size + 1) b1 (of1 + M * 4) lo hi' wl wh), u.val.cell? ⟨w.heap.size + 1, 1, none⟩ = some (.int .i64 hi') := fun u => u.property.2.1
      have x2_ : ∀ u : AtW (LoadHeld (w.heap.size + 1) b1 (of1 + M * 4) lo hi' wl wh), u.val.cell? ⟨b1, of1 + M * 4 + 2, none⟩ = some (.int .i64 wl) := fun u => u.property.2.2.1
      have x3_ : ∀ u : AtW (LoadHeld (w.heap.size + 1) b1 (of1 + M * 4) lo hi' wl wh), u.val.cell? ⟨b1, of1 + M * 4 + 3, none⟩ = some (.int .i64 wh) := fun u => u.property.2.2.2
      clear t0 t1 q2 q3
      go_upto_region 5 with fail
      refine wp_region_ord (fun w' => ∃ u : AtW (LoadHeld (w.heap.size + 1) b1 (of1 + M * 4) lo hi' wl wh), w' = u.val) 19 ((List.range' 0 19).map (fun i => (i, true)) ++ []) (by kernel_rfl) (by kernel_rfl) ⟨⟨_, hF⟩, rfl⟩ ?_
      refine ord_seg 0 19 (by kernel_rfl) (fun d _ _ _ _ h => by cases d <;> exact h) ?_
      simp only [List.drop_zero, List.take_succ_cons, List.take_zero]
      repeat (go_big_quiet_step (fail))
      refine wpQuiet_nil ?_
      clear x0_ x1_ x2_ x3_
      show wpList _ _ _ (List.drop 19 _) _ _
      simp only [List.drop_succ_cons, List.drop_zero]
      obtain ⟨t0, t1⟩ := o5.1.c2
      have f0 := o5.2 0
      have f1 := o5.2 1
      replace o4 := o4.keep gD
      replace o5 := o5.keep gD
      go_wp2
      go_roundw
      case rel =>
        have gN := ((gW.tr gD).setCell (p := ⟨w.heap.size + 1, 0, none⟩) (Nat.le_succ _) (.int .i64 (lo + wl))).setCell (p := ⟨w.heap.size + 1, 1, none⟩) (Nat.le_succ _) (.int .i64 (hi' + wh))
        exact Lib.hid ⟨n + 1, .inr (by omega), by go_num, gN, (o4.other (by omega)).other (by omega), by rw [HE1.out, HE2.out]; exact (o5.set (i := 0) (v := .int .i64 (lo + wl)) (by simp)).set (i := 1) (v := .int .i64 (hi' + wh)) (by simp)⟩
      case measure => simp [intOf]; omega
    · have e : (l.drop (i + 1)).take n = l.drop (i + 1) := List.take_of_length_le (by simp; omega)
      rw [e] at o5
      clear e
      obtain ⟨lo, hlo⟩ : ∃ z, sumLo (l.drop (i + 1)) = z := ⟨_, rfl⟩
      obtain ⟨hi', hhi⟩ : ∃ z, sumHi (l.drop (i + 1)) = z := ⟨_, rfl⟩
      rw [hlo, hhi] at o5
      have HE := Lib.hid (And.intro hlo hhi)
      clear hlo hhi
      rw [hM]
      clear hM hn'
      obtain ⟨t0, t1⟩ := o5.1.c2
      obtain ⟨t2, t3⟩ := o4.1.c2
      have f0 := o4.2 0
      have f1 := o4.2 1
      go_wp2
      have gN := (gW.setCell (p := ⟨w.heap.size, 0, none⟩) (Nat.le_refl _) (.int .i64 lo)).setCell (p := ⟨w.heap.size, 1, none⟩) (Nat.le_refl _) (.int .i64 hi')
      obtain ⟨y0, y1⟩ := ((o4.set (i := 0) (v := .int .i64 lo) (by simp)).set (i := 1) (v := .int .i64 hi') (by simp)).1.c2
      exact bodyPost_ret (v := .agg #[.int .i64 lo, .int .i64 hi']) (by simp [results, Try.results40, go_sem, y0, y1]) rfl ⟨by rw [HE.out.1, HE.out.2], gN⟩

set_option maxRecDepth 100000 in
set_option maxHeartbeats 2000000 in
theorem refFails_any (l : List Ld) (hl : ∀ x ∈ l, LdOk x) (hn : l.length ≤ 100) (t : List Stp) (ht : ∀ s ∈ t, 0 ≤ s.keep ∧ s.keep ≤ 1000) (day : Int) (q : Int) (hq : keptTo t day t.length = q) (a ta : Option Addr) (cap tc : Nat) (w : World) (hr : LRow w a l) (rt : TRow w ta t) :
    Calls Try.prog 81 #[.slice a l.length cap, .slice ta t.length tc, .int .i64 day] w fun e w' => e = .returned (.int .i64 (failI l q)) ∧ Gr w w' := by
  have hl0 := hr.1
  obtain ⟨k0, k1⟩ := keptTo_bd ht day t.length
  rw [hq] at k0 k1
  have HL := Lib.hid hl
  have HK : Hid (∀ W', Gr w W' → Calls Try.prog 80 #[.slice ta t.length tc, .int .i64 day] W' fun e w' => e = .returned (.int .i64 q) ∧ Gr W' w') := Lib.hid (fun W' g => by
    have := refKept_any t day ta tc W' (rt.grow g)
    rw [hq] at this
    exact this)
  clear hl ht hq
  go_enter Try.func81, Try.ntmps81
  go_wp2
  go_loopw [7] (fun i wr => Hid (∃ k : Nat, k ≤ l.length ∧ i = .int .i64 k ∧ Gr w wr ∧ ∀ j, j < k → weakAt l q j = false)) (fun i _ => l.length - (intOf i).toNat)
  case atStart => exact Lib.hid ⟨0, Nat.zero_le _, rfl, Below.refl _ _, fun j hj => by omega⟩
  case round =>
    obtain ⟨k, hk, rfl, gW, hp⟩ := hrel.out
    clear hrel
    have HP := Lib.hid hp
    clear hp
    by_cases hlt : k < l.length
    · obtain ⟨⟨sl, sh, wl, wh⟩, hx⟩ : ∃ x, l[k]? = some x := ⟨l[k], by simp [hlt]⟩
      have hok := (HL.out _ (List.mem_of_getElem? hx)).2
      obtain ⟨h1, h2⟩ := hok
      dsimp only at h1 h2
      obtain ⟨b1, of1, rfl, _, q0, q1, q2, q3⟩ := LRow.get (hr.grow gW) hx
      dsimp only at q0
      have hW : weakAt l q k = decide (sl * q / 1000 < sumHi (l.drop (k + 1))) := by unfold weakAt; rw [hx]
      clear hx q1 q2 q3
      have HLo := Lib.hid (fun W' (g : Gr w W') => refLoad_any l HL.out hn k hk (some ⟨b1, of1, none⟩) cap W' (hr.grow g))
      generalize sumHi (l.drop (k + 1)) = hi' at *
      generalize sumLo (l.drop (k + 1)) = lo at *
      have m0 : 0 ≤ sl * q := Int.mul_nonneg h1 k0
      have m1 : sl * q ≤ 20000000 * 1000 := Int.mul_le_mul h2 k1 k0 (by omega)
      have w0 : IntKind.i64.wrap (sl * q) = sl * q := IntWalk.i64_in _ (by omega)
      have z0 : (sl * q).tdiv 1000 = sl * q / 1000 := Int.tdiv_eq_ediv_of_nonneg m0
      have w1 : IntKind.i64.wrap (sl * q / 1000) = sl * q / 1000 := IntWalk.i64_in _ (by omega)
      go_upto_region 4 with fail
      have hfi := fieldSpan_1
      have x0_ : ∀ u : From wr, u.val.cell? ⟨b1, of1 + k * 4, none⟩ = some (.int .i64 sl) := From.keep q0
      refine wp_region_gr (by kernel_rfl) (by kernel_rfl) ?_
      repeat (go_big_quiet_step (first
        | (go_at_call 40; (with_reducible exact Calls.gr (HLo.out _ (gW.tr (From.property _)))))
        | (go_at_call 80; (with_reducible exact Calls.gr (HK.out _ (gW.tr (From.property _)))))))
      refine wpQuiet_nil ?_
      rintro _ ⟨u, rfl⟩
      clear x0_ hfi
      have gU := u.property
      generalize u.val = Z at *
      by_cases hwk : sl * q / 1000 < hi'
      · have hwt : weakAt l q k = true := by rw [hW]; simpa using hwk
        have E := Lib.hid (show failI l q = (k : Int) by
          have := weakO_some hlt hwt HP.out
          unfold failI
          rw [this])
        clear hW hwt
        go_wp2
        go_ret
        exact ⟨by rw [E.out]; rfl, gW.tr gU⟩
      · have hwf : weakAt l q k = false := by rw [hW]; simpa using hwk
        have hwd : decide (sl * q / 1000 < hi') = false := by simpa using hwk
        have HP2 := Lib.hid (show ∀ j, j < k + 1 → weakAt l q j = false from fun j hj => by
          rcases Nat.lt_or_ge j k with h | h
          · exact HP.out j h
          · obtain rfl : j = k := by omega
            exact hwf)
        clear hW hwf
        go_wp2
        go_roundw
        case rel => exact Lib.hid ⟨k + 1, by omega, by go_num, gW.tr gU, HP2.out⟩
        case measure => simp [intOf]; omega
    · obtain rfl : k = l.length := by omega
      have E := Lib.hid (show failI l q = -1 by
        have := weakO_none (l := l) (keep := q) HP.out
        unfold failI
        rw [this])
      go_wp2
      go_ret
      exact ⟨by rw [E.out]; rfl, gW⟩

end Go.Proofs.Ytjdeojpapdphoaa

namespace Go.Proofs.Ytjdeojpapdphoaa
set_option linter.unusedVariables false
set_option linter.unusedSimpArgs false
open Go.RowKit

theorem chain_strict : ∀ (l : List Stp) (d k : Int), chainL d k l = true → l.Pairwise (fun x y => x.day < y.day)
  | [], _, _, _ => List.Pairwise.nil
  | s :: l, d, k, h => by
    simp only [chainL, Bool.and_eq_true] at h
    exact List.pairwise_cons.2 ⟨fun x hx => ((chain_parts l s.day s.keep h.2).1 x hx).1, chain_strict l s.day s.keep h.2⟩

theorem table_strict {t : List Stp} (h : tableL t = true) : t.Pairwise (fun x y => x.day < y.day) := by
  unfold tableL at h
  simp only [Bool.and_eq_true] at h
  exact chain_strict t _ _ h.2

/-- A table whose days ascend strictly, from 0 on. -/
structure TabS (t : List Stp) (days : Int) : Prop where
  ok : TabOk t days
  st : t.Pairwise (fun x y => x.day < y.day)

theorem TabS.lt {t : List Stp} {days : Int} (h : TabS t days) {j k : Nat} {x y : Stp} (hx : t[j]? = some x) (hy : t[k]? = some y) (hjk : j < k) : x.day < y.day := by
  obtain ⟨b1, c1⟩ := List.getElem?_eq_some_iff.1 hx
  obtain ⟨b2, c2⟩ := List.getElem?_eq_some_iff.1 hy
  have := List.pairwise_iff_getElem.1 h.st j k b1 b2 hjk
  rwa [c1, c2] at this

theorem TabS.ge {t : List Stp} {days : Int} (h : TabS t days) {k : Nat} {y : Stp} (hy : t[k]? = some y) : 0 ≤ y.day := by
  have hlt := (List.getElem?_eq_some_iff.1 hy).1
  obtain ⟨x, hx⟩ : ∃ x, t[0]? = some x := ⟨t[0]'(by omega), by simp⟩
  have h0 := h.ok.head x hx
  rcases Nat.eq_zero_or_pos k with rfl | e
  · rw [hx] at hy
    cases hy
    omega
  · have := h.lt hx hy e
    omega

theorem keptG {t : List Stp} {d : Int} {k : Nat} {s : Stp} (hk : t[k]? = some s) (h1 : s.day ≤ d) (h2 : ∀ (j : Nat) (x : Stp), k < j → t[j]? = some x → d < x.day) : keptTo t d t.length = s.keep := by
  have hlt := (List.getElem?_eq_some_iff.1 hk).1
  have key : ∀ m : Nat, k + 1 + m ≤ t.length → keptTo t d (k + 1 + m) = s.keep := by
    intro m
    induction m with
    | zero =>
      intro hm
      rw [Nat.add_zero, keptTo_succ hk, if_pos h1]
    | succ m ih =>
      intro hm
      obtain ⟨x, hx⟩ : ∃ x, t[k + 1 + m]? = some x := ⟨t[k + 1 + m]'(by omega), by simp⟩
      rw [show k + 1 + (m + 1) = k + 1 + m + 1 from rfl, keptTo_succ hx, if_neg (by have := h2 (k + 1 + m) x (by omega) hx; omega)]
      exact ih (by omega)
  have := key (t.length - (k + 1)) (by omega)
  rwa [show k + 1 + (t.length - (k + 1)) = t.length by omega] at this

theorem keptG_own {t : List Stp} {days : Int} (h : TabS t days) {k : Nat} {s : Stp} (hk : t[k]? = some s) : keptTo t s.day t.length = s.keep :=
  keptG hk (Int.le_refl _) (fun j x hj hx => h.lt hk hx hj)

theorem keptG_some {t : List Stp} {days : Int} (h : TabS t days) {d : Int} (d0 : 0 ≤ d) : ∃ (k : Nat) (s : Stp), t[k]? = some s ∧ s.day ≤ d ∧ ∀ (j : Nat) (x : Stp), k < j → t[j]? = some x → d < x.day := by
  have key : ∀ m : Nat, m + 1 ≤ t.length → ∃ (k : Nat) (s : Stp), k ≤ m ∧ t[k]? = some s ∧ s.day ≤ d ∧ ∀ (j : Nat) (x : Stp), k < j → j ≤ m → t[j]? = some x → d < x.day := by
    intro m
    induction m with
    | zero =>
      intro hm
      obtain ⟨x, hx⟩ : ∃ x, t[0]? = some x := ⟨t[0]'(by omega), by simp⟩
      have := h.ok.head x hx
      exact ⟨0, x, Nat.le_refl _, hx, by omega, fun j y h1 h2 => by omega⟩
    | succ m ih =>
      intro hm
      obtain ⟨x, hx⟩ : ∃ x, t[m + 1]? = some x := ⟨t[m + 1]'(by omega), by simp⟩
      by_cases e : x.day ≤ d
      · exact ⟨m + 1, x, Nat.le_refl _, hx, e, fun j y h1 h2 => by omega⟩
      · obtain ⟨k, s, h1, h2, h3, h4⟩ := ih (by omega)
        refine ⟨k, s, by omega, h2, h3, fun j y hj hj2 hy => ?_⟩
        rcases Nat.lt_or_ge j (m + 1) with e2 | e2
        · exact h4 j y hj (by omega) hy
        · obtain rfl : j = m + 1 := by omega
          rw [hx] at hy
          cases hy
          omega
  have h1 := h.ok.t1
  obtain ⟨k, s, _, h2, h3, h4⟩ := key (t.length - 1) (by omega)
  refine ⟨k, s, h2, h3, fun j x hj hx => h4 j x hj ?_ hx⟩
  have := (List.getElem?_eq_some_iff.1 hx).1
  omega

theorem fall_first {l : List Ld} {t : List Stp} {days d : Int} {i : Nat} (h : TabS t days) (d0 : 0 ≤ d) (d1 : d ≤ days) (hw : weakO l (keptTo t d t.length) = some i) (hb : ∀ d', 0 ≤ d' → d' < d → weakO l (keptTo t d' t.length) = none) :
    ∃ s, fallO l (untilL t days) = some (s, i) ∧ s.day = d := by
  obtain ⟨k, s, h1, h2, h3⟩ := keptG_some h d0
  rw [keptG h1 h2 h3] at hw
  have hsd : s.day = d := by
    by_cases e : s.day < d
    · have := hb s.day (h.ge h1) e
      rw [keptG_own h h1, hw] at this
      cases this
    · omega
  have hu := mem_until (days := days) h.ok.day s (List.mem_of_getElem? h1) (by omega)
  cases hf : fallO l (untilL t days) with
  | none =>
    have := fall_nothing hf s hu
    rw [hw] at this
    cases this
  | some y =>
    obtain ⟨s', i'⟩ := y
    obtain ⟨k', g1, g2, g3⟩ := fall_parts hf
    obtain ⟨j, hj⟩ := List.getElem?_of_mem hu
    rcases Nat.lt_trichotomy j k' with e | e | e
    · have := g3 j s e hj
      rw [hw] at this
      cases this
    · subst e
      rw [hj] at g1
      cases g1
      rw [hw] at g2
      cases g2
      exact ⟨s, rfl, hsd⟩
    · have e1 := until_at g1
      have e2 := until_at hj
      have hlt := h.lt e1 e2 e
      have := hb s'.day (h.ge e1) (by omega)
      rw [keptG_own h e1, g2] at this
      cases this

theorem fall_never {l : List Ld} {t : List Stp} {days : Int} (h : TabS t days) (hb : ∀ d', 0 ≤ d' → d' ≤ days → weakO l (keptTo t d' t.length) = none) : fallO l (untilL t days) = none := by
  cases hf : fallO l (untilL t days) with
  | none => rfl
  | some y =>
    obtain ⟨s', i'⟩ := y
    obtain ⟨k', g1, g2, g3⟩ := fall_parts hf
    have e1 := until_at g1
    have := hb s'.day (h.ge e1) (until_day (List.mem_of_getElem? g1))
    rw [keptG_own h e1, g2] at this
    cases this

def fallT (l : List Ld) (t : List Stp) (days : Int) : Value := match fallO l (untilL t days) with
  | none => .tuple #[.int .i64 0, .int .i64 0, .bool false]
  | some (s, k) => .tuple #[.int .i64 s.day, .int .i64 (k : Int), .bool true]

theorem fallT_none {l : List Ld} {t : List Stp} {days : Int} (h : fallO l (untilL t days) = none) : fallT l t days = .tuple #[.int .i64 0, .int .i64 0, .bool false] := by unfold fallT; rw [h]

theorem fallT_some {l : List Ld} {t : List Stp} {days : Int} {s : Stp} {i : Nat} (h : fallO l (untilL t days) = some (s, i)) : fallT l t days = .tuple #[.int .i64 s.day, .int .i64 (i : Int), .bool true] := by unfold fallT; rw [h]

set_option maxRecDepth 100000 in
set_option maxHeartbeats 2000000 in
theorem refFall_any (l : List Ld) (hl : ∀ x ∈ l, LdOk x) (hn : l.length ≤ 100) (t : List Stp) (days : Int) (ht : TabS t days) (a ta : Option Addr) (cap tc : Nat) (w : World) (hr : LRow w a l) (rt : TRow w ta t) :
    Calls Try.prog 42 #[.slice a l.length cap, .slice ta t.length tc, .int .i64 days] w fun e w' => e = .returned (fallT l t days) ∧ Gr w w' := by
  have hks := ht.ok.keep
  have dd0 := ht.ok.d0
  have dd1 := ht.ok.d1
  have HL := Lib.hid hl
  have HT := Lib.hid ht
  have HKS := Lib.hid hks
  clear hl ht hks
  have HK : Hid (∀ (d q : Int) W', keptTo t d t.length = q → Gr w W' → Calls Try.prog 80 #[.slice ta t.length tc, .int .i64 d] W' fun e w' => e = .returned (.int .i64 q) ∧ Gr W' w') := Lib.hid (fun d q W' hq g => by
    have := refKept_any t d ta tc W' (rt.grow g)
    rw [hq] at this
    exact this)
  have HF : Hid (∀ (d q : Int) W', keptTo t d t.length = q → Gr w W' → Calls Try.prog 81 #[.slice a l.length cap, .slice ta t.length tc, .int .i64 d] W' fun e w' => e = .returned (.int .i64 (failI l q)) ∧ Gr W' w') := Lib.hid (fun d q W' hq g => refFails_any l HL.out hn t HKS.out d q hq a ta cap tc W' (hr.grow g) (rt.grow g))
  go_enter Try.func42, Try.ntmps42
  go_wp2
  go_loopw [10, 9] (fun i q wr => Hid (∃ (d : Nat) (was : Int), (d : Int) ≤ days + 1 ∧ i = .int .i64 d ∧ q = .int .i64 was ∧ Gr w wr ∧ (d = 0 ∧ was = -1 ∨ 0 < d ∧ was = keptTo t ((d : Int) - 1) t.length) ∧ ∀ d', 0 ≤ d' → d' < (d : Int) → weakO l (keptTo t d' t.length) = none)) (fun i _ _ => (days + 1 - intOf i).toNat)
  case atStart => exact Lib.hid ⟨0, -1, by omega, rfl, rfl, Below.refl _ _, .inl ⟨rfl, rfl⟩, fun d' h1 h2 => by omega⟩
  case round =>
    obtain ⟨d, was, hd, rfl, rfl, gW, hwas, hb⟩ := hrel.out
    clear hrel
    by_cases hlt : (d : Int) ≤ days
    · obtain ⟨q, hq⟩ : ∃ q, keptTo t (d : Int) t.length = q := ⟨_, rfl⟩
      obtain ⟨q0, q1⟩ := keptTo_bd HKS.out (d : Int) t.length
      rw [hq] at q0 q1
      have HQ := Lib.hid hq
      by_cases hqw : q = was
      · have hn : weakO l q = none := by
          rcases hwas with ⟨_, e⟩ | ⟨e0, e⟩
          · omega
          · have := hb ((d : Int) - 1) (by omega) (by omega)
            rw [← e, ← hqw] at this
            exact this
        have HN : Hid (∀ d', 0 ≤ d' → d' < ((d + 1 : Nat) : Int) → weakO l (keptTo t d' t.length) = none) := Lib.hid (fun d' h1 h2 => by
          rcases Int.lt_or_le d' (d : Int) with e | e
          · exact hb d' h1 e
          · obtain rfl : d' = (d : Int) := by omega
            rw [hq]
            exact hn)
        subst hqw
        clear hwas hb hn hq
        go_wp2_with (go_at_call 80; refine (HK.out (d : Int) q _ HQ.out gW).mono ?_; rintro e w1 ⟨rfl, g1⟩)
        go_roundw
        case rel => exact Lib.hid ⟨d + 1, q, by omega, by go_num, rfl, gW.tr g1, .inr ⟨by omega, by rw [show ((d + 1 : Nat) : Int) - 1 = (d : Int) by omega, HQ.out]⟩, HN.out⟩
        case measure => simp [intOf]; omega
      · have hne : (q != was) = true := by simpa using hqw
        have HB := Lib.hid hb
        cases hO : weakO l q with
        | none =>
          have hfi : failI l q = -1 := by unfold failI; rw [hO]
          have HF1 : Hid (∀ W', Gr w W' → Calls Try.prog 81 #[.slice a l.length cap, .slice ta t.length tc, .int .i64 (d : Int)] W' fun e w' => e = .returned (.int .i64 (-1)) ∧ Gr W' w') := Lib.hid (fun W' g => by
            have := HF.out (d : Int) q W' HQ.out g
            rw [hfi] at this
            exact this)
          have HN : Hid (∀ d', 0 ≤ d' → d' < ((d + 1 : Nat) : Int) → weakO l (keptTo t d' t.length) = none) := Lib.hid (fun d' h1 h2 => by
            rcases Int.lt_or_le d' (d : Int) with e | e
            · exact hb d' h1 e
            · obtain rfl : d' = (d : Int) := by omega
              rw [hq]
              exact hO)
          clear hwas hb hq hO hfi hqw
          go_wp2_with (first
            | (go_at_call 80; refine (HK.out (d : Int) q _ HQ.out gW).mono ?_; rintro e w1 ⟨rfl, g1⟩)
            | (go_at_call 81; refine (HF1.out _ (gW.tr g1)).mono ?_; rintro e w2 ⟨rfl, g2⟩))
          go_roundw
          case rel => exact Lib.hid ⟨d + 1, q, by omega, by go_num, rfl, gW.tr (g1.tr g2), .inr ⟨by omega, by rw [show ((d + 1 : Nat) : Int) - 1 = (d : Int) by omega, HQ.out]⟩, HN.out⟩
          case measure => simp [intOf]; omega
        | some i =>
          have hfi : failI l q = (i : Int) := by unfold failI; rw [hO]
          have HF1 : Hid (∀ W', Gr w W' → Calls Try.prog 81 #[.slice a l.length cap, .slice ta t.length tc, .int .i64 (d : Int)] W' fun e w' => e = .returned (.int .i64 (i : Int)) ∧ Gr W' w') := Lib.hid (fun W' g => by
            have := HF.out (d : Int) q W' HQ.out g
            rw [hfi] at this
            exact this)
          obtain ⟨s, hf, hsd⟩ := fall_first (l := l) HT.out (by omega) hlt (by rw [hq]; exact hO) hb
          have E : fallT l t days = .tuple #[.int .i64 (d : Int), .int .i64 (i : Int), .bool true] := by rw [fallT_some hf, hsd]
          have HE := Lib.hid E
          clear hwas hb hq hO hfi hqw hf E hsd
          go_wp2_with (first
            | (go_at_call 80; refine (HK.out (d : Int) q _ HQ.out gW).mono ?_; rintro e w1 ⟨rfl, g1⟩)
            | (go_at_call 81; refine (HF1.out _ (gW.tr g1)).mono ?_; rintro e w2 ⟨rfl, g2⟩))
          rw [HE.out]
          exact bodyPost_ret (v := .tuple #[.int .i64 (d : Int), .int .i64 (i : Int), .bool true]) (by simp [results, Try.results42, go_sem]) rfl ⟨rfl, gW.tr (g1.tr g2)⟩
    · have hdl : decide ((d : Int) ≤ days) = false := by simpa using hlt
      have E : fallT l t days = .tuple #[.int .i64 0, .int .i64 0, .bool false] := fallT_none (fall_never (l := l) HT.out (fun d' h1 h2 => hb d' h1 (by omega)))
      have HE := Lib.hid E
      clear hwas hb E
      go_wp2
      rw [HE.out]
      exact bodyPost_ret (v := .tuple #[.int .i64 0, .int .i64 0, .bool false]) (by simp [results, Try.results42, go_sem]) rfl ⟨rfl, gW⟩

set_option maxRecDepth 100000 in
theorem refStands_any (l : List Ld) (hl : ∀ x ∈ l, LdOk x) (hn : l.length ≤ 100) (t : List Stp) (days : Int) (ht : TabS t days) (d : Bool) (hd : (fallO l (untilL t days)).isNone = d) (a ta : Option Addr) (cap tc : Nat) (w : World) (hr : LRow w a l) (rt : TRow w ta t) :
    Calls Try.prog 86 #[.slice a l.length cap, .slice ta t.length tc, .int .i64 days] w fun e w' => e = .returned (.bool d) ∧ Gr w w' := by
  have h1 := refFall_any l hl hn t days ht a ta cap tc w hr rt
  cases hf : fallO l (untilL t days) with
  | none =>
    rw [hf] at hd
    obtain rfl : d = true := hd.symm
    rw [fallT_none hf] at h1
    have H1 := Lib.hid h1
    clear h1 hf hd ht hl
    go_enter Try.func86, Try.ntmps86
    go_wp2_with (go_at_call 42; refine H1.out.mono ?_; rintro e w1 ⟨rfl, g1⟩)
    go_ret
    exact ⟨rfl, g1⟩
  | some y =>
    obtain ⟨s, i⟩ := y
    rw [hf] at hd
    obtain rfl : d = false := hd.symm
    rw [fallT_some hf] at h1
    have H1 := Lib.hid h1
    clear h1 hf hd ht hl
    go_enter Try.func86, Try.ntmps86
    go_wp2_with (go_at_call 42; refine H1.out.mono ?_; rintro e w1 ⟨rfl, g1⟩)
    go_ret
    exact ⟨rfl, g1⟩

end Go.Proofs.Ytjdeojpapdphoaa

namespace Go.Proofs.Ytjdeojpapdphoaa
set_option linter.unusedVariables false
set_option linter.unusedSimpArgs false
open Go.RowKit

/-- What is asked of a step of a table, besides the first one's day. -/
def okS (t : List Stp) (k : Nat) (s : Stp) : Prop := (0 ≤ s.day ∧ s.day ≤ 10000) ∧ (0 ≤ s.keep ∧ s.keep ≤ 1000) ∧ ∀ p, 0 < k → t[k - 1]? = some p → p.day < s.day ∧ s.keep ≤ p.keep

def prevS (d kk : Int) (l : List Stp) (k : Nat) : Stp := if k = 0 then ⟨d, kk⟩ else l.getD (k - 1) ⟨0, 0⟩

theorem prevS_zero (d kk : Int) (l : List Stp) : prevS d kk l 0 = ⟨d, kk⟩ := rfl

theorem chain_iff : ∀ (l : List Stp) (d kk : Int), chainL d kk l = true ↔ ∀ (k : Nat) (s : Stp), l[k]? = some s → (prevS d kk l k).day < s.day ∧ s.day ≤ 10000 ∧ 0 ≤ s.keep ∧ s.keep ≤ (prevS d kk l k).keep
  | [], d, kk => by simp [chainL]
  | x :: l, d, kk => by
    have ih := chain_iff l x.day x.keep
    have hp : ∀ k, prevS d kk (x :: l) (k + 1) = prevS x.day x.keep l k := fun k => by
      unfold prevS
      cases k with
      | zero => simp
      | succ k => simp
    constructor
    · intro h k s hs
      simp only [chainL, inB, in1, List.all_cons, List.all_nil, Bool.and_true, Bool.and_eq_true, decide_eq_true_eq] at h
      obtain ⟨⟨⟨h1, h2⟩, h3, h4⟩, h5⟩ := h
      cases k with
      | zero =>
        simp at hs
        subst hs
        rw [prevS_zero]
        dsimp only
        exact ⟨by omega, by omega, by omega, by omega⟩
      | succ k =>
        rw [hp]
        exact ih.1 h5 k s (by simpa using hs)
    · intro h
      have h0 := h 0 x rfl
      rw [prevS_zero] at h0
      dsimp only at h0
      have h5 := ih.2 (fun k s hs => by
        have := h (k + 1) s (by simpa using hs)
        rwa [hp] at this)
      simp only [chainL, inB, in1, List.all_cons, List.all_nil, Bool.and_true, Bool.and_eq_true, decide_eq_true_eq]
      exact ⟨⟨⟨by omega, by omega⟩, by omega, by omega⟩, h5⟩

theorem prevS_at {d kk : Int} {l : List Stp} {k : Nat} (h0 : 0 < k) {p : Stp} (hp : l[k - 1]? = some p) : prevS d kk l k = p := by
  unfold prevS
  rw [if_neg (by omega), List.getD_eq_getElem?_getD, hp]
  rfl

theorem chain_ok {t : List Stp} (h : chainL (-1) 1000 t = true) {k : Nat} {s : Stp} (hs : t[k]? = some s) : okS t k s := by
  have h1 := (chain_parts t _ _ h).1 s (List.mem_of_getElem? hs)
  have h2 := (chain_iff t _ _).1 h k s hs
  refine ⟨by omega, by omega, fun p h0 hp => ?_⟩
  rw [prevS_at h0 hp] at h2
  omega

theorem chain_of {t : List Stp} (h : ∀ (k : Nat) (s : Stp), t[k]? = some s → okS t k s) : chainL (-1) 1000 t = true := by
  refine (chain_iff t _ _).2 (fun k s hs => ?_)
  obtain ⟨h1, h2, h3⟩ := h k s hs
  rcases Nat.eq_zero_or_pos k with rfl | h0
  · rw [prevS_zero]
    dsimp only
    omega
  · have hlt := (List.getElem?_eq_some_iff.1 hs).1
    obtain ⟨p, hp⟩ : ∃ p, t[k - 1]? = some p := ⟨t[k - 1]'(by omega), by simp⟩
    rw [prevS_at h0 hp]
    have := h3 p h0 hp
    omega

set_option maxRecDepth 100000 in
set_option maxHeartbeats 4000000 in
theorem refTable_any (t : List Stp) (d : Bool) (hd : tableL t = d) (ta : Option Addr) (tc : Nat) (w : World) (rt : TRow w ta t) :
    Calls Try.prog 79 #[.slice ta t.length tc] w fun e w' => e = .returned (.bool d) ∧ Gr w w' := by
  have ht0 := rt.1
  cases c : in1 1 10 (t.length : Int) with
  | false =>
    have E := Lib.hid (show d = false by
      rw [← hd]
      unfold tableL
      simp only [inB, List.all_cons, List.all_nil, Bool.and_true, c, Bool.false_and])
    clear hd
    go_enter Try.func79, Try.ntmps79
    go_wp2_with (go_at_call 25; refine (refIn_any (t.length : Int) 1 10 false c _).mono ?_; rintro e w1 ⟨rfl, g1⟩)
    go_ret
    exact ⟨ret_bool E.out.symm, g1⟩
  | true =>
    have hlen : 1 ≤ t.length ∧ t.length ≤ 10 := by simp [in1] at c; omega
    obtain ⟨⟨s0, k0⟩, hx0⟩ : ∃ x, t[0]? = some x := ⟨t[0]'(by omega), by simp⟩
    obtain ⟨b0, o0, ea0, _, p0, _⟩ := TRow.get rt hx0
    dsimp only at p0
    rw [Nat.zero_mul, Nat.add_zero] at p0
    have hlt0 : 0 < t.length := by omega
    by_cases h0 : s0 = 0
    · have hT : tableL t = chainL (-1) 1000 t := by
        cases ht : t with
        | nil => rw [ht] at hlen; simp at hlen
        | cons y ys =>
          rw [ht] at hx0 c
          simp at hx0
          unfold tableL
          simp only [inB, List.all_cons, List.all_nil, Bool.and_true, c, Bool.true_and]
          rw [hx0]
          simp [h0]
      rw [hT] at hd
      have HD := Lib.hid hd
      subst h0
      subst ea0
      clear hd hT hx0
      have HC := Lib.hid c
      clear c
      go_enter Try.func79, Try.ntmps79
      go_upto_region 3 with (go_at_call 25; refine (refIn_any (t.length : Int) 1 10 true HC.out _).mono ?_; rintro e w1 ⟨rfl, g1⟩; replace p0 := g1.keep p0)
      clear p0
      go_wp2
      go_loopw [3] (fun i wr => Hid (∃ k : Nat, k ≤ t.length ∧ i = .int .i64 k ∧ Gr w wr ∧ ∀ (j : Nat) (s : Stp), j < k → t[j]? = some s → okS t j s)) (fun i _ => t.length - (intOf i).toNat)
      case atStart => exact Lib.hid ⟨0, Nat.zero_le _, rfl, g1, fun j s hj => by omega⟩
      case round =>
        obtain ⟨k, hk, rfl, gW, hp⟩ := hrel.out
        clear hrel
        have HP := Lib.hid hp
        clear hp g1
        by_cases hlt : k < t.length
        · obtain ⟨⟨sd, sk⟩, hx⟩ : ∃ x, t[k]? = some x := ⟨t[k], by simp [hlt]⟩
          obtain ⟨b1, o1, ea, _, q0, q1⟩ := TRow.get (rt.grow gW) hx
          injection ea with ea
          injection ea with e1 e2 _
          subst e1
          subst e2
          dsimp only at q0 q1
          have HX := Lib.hid hx
          clear hx
          have bad : ¬ okS t k ⟨sd, sk⟩ → d = false := fun h => by
            rw [← HD.out]
            cases hc : chainL (-1) 1000 t with
            | false => rfl
            | true => exact absurd (chain_ok hc HX.out) h
          have good : okS t k ⟨sd, sk⟩ → ∀ (j : Nat) (s : Stp), j < k + 1 → t[j]? = some s → okS t j s := fun h j s hj hs => by
            rcases Nat.lt_or_ge j k with e | e
            · exact HP.out j s e hs
            · obtain rfl : j = k := by omega
              have := HX.out
              rw [hs] at this
              cases this
              exact h
          have HI1 := Lib.hid (fun (c0 : Bool) (h : in1 0 10000 sd = c0) (W' : World) => refIn_any sd 0 10000 c0 h W')
          have HI2 := Lib.hid (fun (c0 : Bool) (h : in1 0 1000 sk = c0) (W' : World) => refIn_any sk 0 1000 c0 h W')
          have y0 := From.keep q0
          have y1 := From.keep q1
          cases c0 : in1 0 10000 sd with
          | false =>
            have E := Lib.hid (bad (fun h => by
              have h1 := h.1
              simp [in1] at c0
              dsimp only at h1
              omega))
            have C0 := Lib.hid (fun W' => HI1.out false c0 W')
            clear bad good c0 HI1 HI2 q0 q1
            go_upto_region 6 with fail
            refine wp_region_gr (by kernel_rfl) (by kernel_rfl) ?_
            repeat (go_big_quiet_step (first
              | (go_at_call 25; (with_reducible exact Calls.gr (C0.out _)))))
            refine wpQuiet_nil ?_
            rintro _ ⟨u, rfl⟩
            clear y0 y1
            go_wp2
            go_ret
            exact ⟨ret_bool E.out.symm, gW.tr u.property⟩
          | true =>
            have C0 := Lib.hid (fun W' => HI1.out true c0 W')
            cases c1 : in1 0 1000 sk with
            | false =>
              have E := Lib.hid (bad (fun h => by
                have h1 := h.2.1
                simp [in1] at c1
                dsimp only at h1
                omega))
              have C1 := Lib.hid (fun W' => HI2.out false c1 W')
              clear bad good c0 c1 HI1 HI2 q0 q1
              go_upto_region 6 with fail
              refine wp_region_gr (by kernel_rfl) (by kernel_rfl) ?_
              repeat (go_big_quiet_step (first
                | (go_at_call 25; (with_reducible exact Calls.gr (C0.out _)))
                | (go_at_call 25; (with_reducible exact Calls.gr (C1.out _)))))
              refine wpQuiet_nil ?_
              rintro _ ⟨u, rfl⟩
              clear y0 y1
              go_wp2
              go_ret
              exact ⟨ret_bool E.out.symm, gW.tr u.property⟩
            | true =>
              have C1 := Lib.hid (fun W' => HI2.out true c1 W')
              by_cases hk0 : k = 0
              · have HG := Lib.hid (good ⟨by simp [in1] at c0; dsimp only; omega, by simp [in1] at c1; dsimp only; omega, fun p h0 => by omega⟩)
                subst hk0
                simp only [Nat.zero_mul, Nat.add_zero] at y0 y1
                clear bad good c0 c1 HI1 HI2 q0 q1
                go_upto_region 6 with fail
                refine wp_region_gr (by kernel_rfl) (by kernel_rfl) ?_
                repeat (go_big_quiet_step (first
                  | (go_at_call 25; (with_reducible exact Calls.gr (C0.out _)))
                  | (go_at_call 25; (with_reducible exact Calls.gr (C1.out _)))))
                refine wpQuiet_nil ?_
                rintro _ ⟨u, rfl⟩
                clear y0 y1
                go_wp2
                go_roundw
                case rel => exact Lib.hid ⟨0 + 1, by omega, by go_num, gW.tr u.property, HG.out⟩
                case measure => simp [intOf]; omega
              · obtain ⟨P, hP⟩ : ∃ P, k = P + 1 := ⟨k - 1, by omega⟩
                have hkp : (0 : Int) < (k : Int) := by omega
                have hkn : 0 < k := by omega
                have hPt : P < t.length := by omega
                obtain ⟨⟨pd, pk⟩, hy⟩ : ∃ x, t[P]? = some x := ⟨t[P], by simp [hPt]⟩
                obtain ⟨b2, o2, ea, _, q2, q3⟩ := TRow.get (rt.grow gW) hy
                injection ea with ea
                injection ea with e1 e2 _
                subst e1
                subst e2
                dsimp only at q2 q3
                have y2 := From.keep q2
                have y3 := From.keep q3
                have zk : IntKind.i64.wrap ((k : Int) - 1) = (P : Int) := by rw [show (k : Int) - 1 = (P : Int) by omega]; exact IntWalk.i64_in _ (by omega)
                have hy2 : t[k - 1]? = some ⟨pd, pk⟩ := by rw [hP]; exact hy
                by_cases h2 : sd ≤ pd
                · have E := Lib.hid (bad (fun h => by
                    have := h.2.2 _ (by omega) hy2
                    dsimp only at this
                    omega))
                  clear bad good c0 c1 HI1 HI2 q0 q1 q2 q3 hP hy hy2 hk0
                  go_upto_region 6 with fail
                  refine wp_region_gr (by kernel_rfl) (by kernel_rfl) ?_
                  repeat (go_big_quiet_step (first
                    | (go_at_call 25; (with_reducible exact Calls.gr (C0.out _)))
                    | (go_at_call 25; (with_reducible exact Calls.gr (C1.out _)))))
                  refine wpQuiet_nil ?_
                  rintro _ ⟨u, rfl⟩
                  clear y0 y1 y2 y3
                  go_wp2
                  go_ret
                  exact ⟨ret_bool E.out.symm, gW.tr u.property⟩
                · by_cases h3 : pk < sk
                  · have E := Lib.hid (bad (fun h => by
                      have := h.2.2 _ (by omega) hy2
                      dsimp only at this
                      omega))
                    have h2' : decide (sd ≤ pd) = false := by simpa using h2
                    clear bad good c0 c1 HI1 HI2 q0 q1 q2 q3 hP hy hy2 hk0
                    go_upto_region 6 with fail
                    refine wp_region_gr (by kernel_rfl) (by kernel_rfl) ?_
                    repeat (go_big_quiet_step (first
                      | (go_at_call 25; (with_reducible exact Calls.gr (C0.out _)))
                      | (go_at_call 25; (with_reducible exact Calls.gr (C1.out _)))))
                    refine wpQuiet_nil ?_
                    rintro _ ⟨u, rfl⟩
                    clear y0 y1 y2 y3
                    go_wp2
                    go_ret
                    exact ⟨ret_bool E.out.symm, gW.tr u.property⟩
                  · have HG := Lib.hid (good ⟨by simp [in1] at c0; dsimp only; omega, by simp [in1] at c1; dsimp only; omega, fun p h0 hp => by
                      rw [hy2] at hp
                      cases hp
                      dsimp only
                      omega⟩)
                    have h2' : decide (sd ≤ pd) = false := by simpa using h2
                    have h3' : decide (pk < sk) = false := by simpa using h3
                    clear bad good c0 c1 HI1 HI2 q0 q1 q2 q3 hP hy hy2 hk0
                    go_upto_region 6 with fail
                    refine wp_region_gr (by kernel_rfl) (by kernel_rfl) ?_
                    repeat (go_big_quiet_step (first
                      | (go_at_call 25; (with_reducible exact Calls.gr (C0.out _)))
                      | (go_at_call 25; (with_reducible exact Calls.gr (C1.out _)))))
                    refine wpQuiet_nil ?_
                    rintro _ ⟨u, rfl⟩
                    clear y0 y1 y2 y3
                    go_wp2
                    go_roundw
                    case rel => exact Lib.hid ⟨k + 1, by omega, by go_num, gW.tr u.property, HG.out⟩
                    case measure => simp [intOf]; omega
        · obtain rfl : k = t.length := by omega
          have E := Lib.hid (show d = true by
            rw [← HD.out]
            exact chain_of (fun k s hs => HP.out k s (List.getElem?_eq_some_iff.1 hs).1 hs))
          clear hlt hk
          go_wp2
          go_ret
          exact ⟨ret_bool E.out.symm, gW⟩
    · have E := Lib.hid (show d = false by
        rw [← hd]
        cases ht : t with
        | nil => rw [ht] at hlen; simp at hlen
        | cons y ys =>
          rw [ht] at hx0
          simp at hx0
          unfold tableL
          rw [hx0]
          simp [h0])
      have h0' : (s0 != 0) = true := by simpa using h0
      subst ea0
      have HC := Lib.hid c
      clear hd hx0 c
      go_enter Try.func79, Try.ntmps79
      go_wp2_with (go_at_call 25; refine (refIn_any (t.length : Int) 1 10 true HC.out _).mono ?_; rintro e w1 ⟨rfl, g1⟩; replace p0 := g1.keep p0)
      go_ret
      exact ⟨ret_bool E.out.symm, g1⟩

/-- The error of a table and days. -/
def throughL (t : List Stp) (days : Int) : Int := if tableL t = false then 4 else if inB 0 10000 [days] = false then 3 else 0

set_option maxRecDepth 100000 in
theorem refThrough_any (t : List Stp) (days R : Int) (hR : throughL t days = R) (ta : Option Addr) (tc : Nat) (w : World) (rt : TRow w ta t) :
    Calls Try.prog 41 #[.slice ta t.length tc, .int .i64 days] w fun e w' => e = .returned (.int .i64 R) ∧ Gr w w' := by
  unfold throughL at hR
  cases c : tableL t with
  | false =>
    obtain rfl : R = 4 := by rw [← hR, if_pos c]
    have H1 := Lib.hid (refTable_any t false c ta tc w rt)
    clear hR c
    go_enter Try.func41, Try.ntmps41
    go_wp2_with (go_at_call 79; refine H1.out.mono ?_; rintro e w1 ⟨rfl, g1⟩)
    go_ret
    exact ⟨rfl, g1⟩
  | true =>
    have H1 := Lib.hid (refTable_any t true c ta tc w rt)
    rw [if_neg (by rw [c]; decide)] at hR
    have hb : inB 0 10000 [days] = in1 0 10000 days := by simp [inB]
    rw [hb] at hR
    cases c1 : in1 0 10000 days with
    | false =>
      obtain rfl : R = 3 := by rw [← hR, if_pos c1]
      have H2 := Lib.hid (fun W' => refIn_any days 0 10000 false c1 W')
      clear hR c hb c1
      go_enter Try.func41, Try.ntmps41
      go_wp2_with (first
        | (go_at_call 79; refine H1.out.mono ?_; rintro e w1 ⟨rfl, g1⟩)
        | (go_at_call 25; refine (H2.out _).mono ?_; rintro e w2 ⟨rfl, g2⟩))
      go_ret
      exact ⟨rfl, g1.tr g2⟩
    | true =>
      obtain rfl : R = 0 := by rw [← hR, if_neg (by rw [c1]; decide)]
      have H2 := Lib.hid (fun W' => refIn_any days 0 10000 true c1 W')
      clear hR c hb c1
      go_enter Try.func41, Try.ntmps41
      go_wp2_with (first
        | (go_at_call 79; refine H1.out.mono ?_; rintro e w1 ⟨rfl, g1⟩)
        | (go_at_call 25; refine (H2.out _).mono ?_; rintro e w2 ⟨rfl, g2⟩))
      go_ret
      exact ⟨rfl, g1.tr g2⟩

set_option maxRecDepth 100000 in
set_option maxHeartbeats 2000000 in
theorem refStacks_any (l : List Ld) (a b : Option Addr) (c d : Nat) (w : World) (hl : LRow w a l) (hm : LRow w b l) :
    Calls Try.prog 37 #[.slice a l.length c, .slice b l.length d] w fun e w' => e = .returned (.bool true) ∧ Gr w w' := by
  have h0 := hl.1
  go_enter Try.func37, Try.ntmps37
  go_wp2
  go_loopw [5] (fun i wr => Hid (∃ k : Nat, k ≤ l.length ∧ i = .int .i64 k ∧ Gr w wr)) (fun i _ => l.length - (intOf i).toNat)
  case atStart => exact Lib.hid ⟨0, Nat.zero_le _, rfl, Below.refl _ _⟩
  case round =>
    obtain ⟨k, hk, rfl, gW⟩ := hrel.out
    clear hrel
    by_cases hlt : k < l.length
    · obtain ⟨⟨sl, sh, wl, wh⟩, hx⟩ : ∃ x, l[k]? = some x := ⟨l[k], by simp [hlt]⟩
      obtain ⟨b1, o1, rfl, _, q0, q1, q2, q3⟩ := LRow.get (hl.grow gW) hx
      obtain ⟨b2, o2, rfl, _, r0, r1, r2, r3⟩ := LRow.get (hm.grow gW) hx
      dsimp only at q0 q1 q2 q3 r0 r1 r2 r3
      clear hx
      go_upto_region 6 with fail
      go_quiet (fail)
      go_wp2
      go_roundw
      case rel => exact Lib.hid ⟨k + 1, by omega, by go_num, Gr.drewN gW _⟩
      case measure => simp [intOf]; omega
    · obtain rfl : k = l.length := by omega
      go_wp2
      go_ret
      exact ⟨rfl, gW⟩

set_option maxRecDepth 100000 in
set_option maxHeartbeats 2000000 in
theorem refTables_any (l : List Stp) (a b : Option Addr) (c d : Nat) (w : World) (hl : TRow w a l) (hm : TRow w b l) :
    Calls Try.prog 38 #[.slice a l.length c, .slice b l.length d] w fun e w' => e = .returned (.bool true) ∧ Gr w w' := by
  have h0 := hl.1
  go_enter Try.func38, Try.ntmps38
  go_wp2
  go_loopw [5] (fun i wr => Hid (∃ k : Nat, k ≤ l.length ∧ i = .int .i64 k ∧ Gr w wr)) (fun i _ => l.length - (intOf i).toNat)
  case atStart => exact Lib.hid ⟨0, Nat.zero_le _, rfl, Below.refl _ _⟩
  case round =>
    obtain ⟨k, hk, rfl, gW⟩ := hrel.out
    clear hrel
    by_cases hlt : k < l.length
    · obtain ⟨⟨sd, sk⟩, hx⟩ : ∃ x, l[k]? = some x := ⟨l[k], by simp [hlt]⟩
      obtain ⟨b1, o1, rfl, _, q0, q1⟩ := TRow.get (hl.grow gW) hx
      obtain ⟨b2, o2, rfl, _, r0, r1⟩ := TRow.get (hm.grow gW) hx
      dsimp only at q0 q1 r0 r1
      clear hx
      go_upto_region 6 with fail
      go_quiet (fail)
      go_wp2
      go_roundw
      case rel => exact Lib.hid ⟨k + 1, by omega, by go_num, Gr.drewN gW _⟩
      case measure => simp [intOf]; omega
    · obtain rfl : k = l.length := by omega
      go_wp2
      go_ret
      exact ⟨rfl, gW⟩

end Go.Proofs.Ytjdeojpapdphoaa

namespace Go.Proofs.Ytjdeojpapdphoaa
set_option linter.unusedVariables false
set_option linter.unusedSimpArgs false
open Go.RowKit

theorem weak_mono {l : List Ld} (hl : ∀ x ∈ l, 0 ≤ x.sl) {q q' : Int} (h : q ≤ q') (hw : weakO l q = none) : weakO l q' = none := by
  refine weakO_none (fun i hi => ?_)
  obtain ⟨x, hx⟩ : ∃ x, l[i]? = some x := ⟨l[i], by simp [hi]⟩
  have h1 := weakO_at hw hi
  unfold weakAt at h1 ⊢
  rw [hx] at h1 ⊢
  simp only [decide_eq_false_iff_not] at h1 ⊢
  have h2 : x.sl * q ≤ x.sl * q' := Int.mul_le_mul_of_nonneg_left h (hl x (List.mem_of_getElem? hx))
  have h3 : x.sl * q / 1000 ≤ x.sl * q' / 1000 := Int.ediv_le_ediv (by omega) h2
  omega

theorem last_mem {t : List Stp} {days : Int} (h : TabOk t days) : ∃ s, s ∈ untilL t days ∧ lastL t days = s.keep ∧ ∀ x ∈ untilL t days, s.keep ≤ x.keep := by
  have h0 := until_pos h
  have h1 := until_len t days
  obtain ⟨s, hs⟩ : ∃ s, (untilL t days)[(untilL t days).length - 1]? = some s := ⟨(untilL t days)[(untilL t days).length - 1]'(by omega), by simp⟩
  have hs2 := until_at hs
  refine ⟨s, List.mem_of_getElem? hs, by unfold lastL; rw [hs2], fun x hx => ?_⟩
  obtain ⟨j, hj⟩ := List.getElem?_of_mem hx
  have hjl := (List.getElem?_eq_some_iff.1 hj).1
  rcases Nat.lt_or_ge j ((untilL t days).length - 1) with e | e
  · obtain ⟨b1, c1⟩ := List.getElem?_eq_some_iff.1 (until_at hj)
    obtain ⟨b2, c2⟩ := List.getElem?_eq_some_iff.1 hs2
    have := List.pairwise_iff_getElem.1 h.down j _ b1 b2 e
    rw [c1, c2] at this
    exact this
  · obtain rfl : j = (untilL t days).length - 1 := by omega
    rw [hs] at hj
    cases hj
    omega

/-- A stack stands through some days just if it does on the last one. -/
theorem fall_last {l : List Ld} (hl : ∀ x ∈ l, 0 ≤ x.sl) {t : List Stp} {days : Int} (h : TabOk t days) : fallO l (untilL t days) = none ↔ weakO l (lastL t days) = none := by
  obtain ⟨s, h1, h2, h3⟩ := last_mem h
  constructor
  · intro hf
    rw [h2]
    exact fall_nothing hf s h1
  · intro hw
    rw [h2] at hw
    unfold fallO
    rw [List.findSome?_eq_none_iff]
    intro x hx
    rw [weak_mono hl (h3 x hx) hw]
    rfl

theorem hsum_rep (x : Ld) : ∀ m : Nat, sumHi (List.replicate m x) = x.wh * (m : Int)
  | 0 => by simp [sumHi]
  | m + 1 => by
    rw [List.replicate_succ, sumHi, hsum_rep x m, show ((m + 1 : Nat) : Int) = (m : Int) + 1 by omega, Int.mul_add]
    omega

theorem hweak_rep {x : Ld} (hx : 0 ≤ x.wh) {q : Int} (m : Nat) : weakO (List.replicate (m + 1) x) q = none ↔ decide (x.sl * q / 1000 < x.wh * (m : Int)) = false := by
  have hat : ∀ i, i < m + 1 → weakAt (List.replicate (m + 1) x) q i = decide (x.sl * q / 1000 < x.wh * ((m - i : Nat) : Int)) := fun i hi => by
    unfold weakAt
    rw [List.getElem?_replicate, if_pos hi, List.drop_replicate, hsum_rep, show m + 1 - (i + 1) = m - i by omega]
  constructor
  · intro h
    have := weakO_at h (i := 0) (by simp)
    rw [hat 0 (by omega)] at this
    exact this
  · intro h
    refine weakO_none (fun i hi => ?_)
    have hi' : i < m + 1 := by simpa using hi
    rw [hat i hi']
    simp only [decide_eq_false_iff_not] at h ⊢
    have : x.wh * ((m - i : Nat) : Int) ≤ x.wh * (m : Int) := Int.mul_le_mul_of_nonneg_left (by omega) hx
    omega

/-- Whether so many equal boxes stand. -/
def stB (x : Ld) (t : List Stp) (days : Int) (m : Nat) : Bool := (fallO (List.replicate m x) (untilL t days)).isNone

theorem stB_is {x : Ld} (hx : LdOk x) {t : List Stp} {days : Int} (h : TabOk t days) (m : Nat) : stB x t days (m + 1) = decide (¬ x.sl * lastL t days / 1000 < x.wh * (m : Int)) := by
  have hl : ∀ y ∈ List.replicate (m + 1) x, 0 ≤ y.sl := fun y hy => by
    rw [List.eq_of_mem_replicate hy]
    exact hx.2.1
  have h1 := fall_last hl h
  have h2 := hweak_rep (q := lastL t days) hx.1.2.2.1 m
  unfold stB
  cases hf : fallO (List.replicate (m + 1) x) (untilL t days) with
  | none =>
    have := h2.1 (h1.1 hf)
    simp only [decide_eq_false_iff_not] at this
    simp [this]
  | some y =>
    have h3 : ¬ weakO (List.replicate (m + 1) x) (lastL t days) = none := fun e => by
      rw [h1.2 e] at hf
      cases hf
    have h4 : ¬ decide (x.sl * lastL t days / 1000 < x.wh * (m : Int)) = false := fun e => h3 (h2.2 e)
    simp at h4
    simp [h4]

/-- The greatest number, up to one, of which so many stand. -/
def hiTo (p : Nat → Bool) : Nat → Nat
  | 0 => 0
  | n + 1 => if p (n + 1) = true then n + 1 else hiTo p n

theorem hiTo_is {p : Nat → Bool} {r : Nat} (h1 : ∀ a, a < r → p (a + 1) = true) : ∀ n : Nat, (∀ a, r ≤ a → a < n → p (a + 1) = false) → hiTo p n = min r n
  | 0, _ => by simp [hiTo]
  | n + 1, h2 => by
    have ih := hiTo_is h1 n (fun a ha hn => h2 a ha (by omega))
    unfold hiTo
    by_cases e : n < r
    · rw [if_pos (h1 n e)]
      omega
    · rw [if_neg (by rw [h2 n (by omega) (by omega)]; decide), ih]
      omega

set_option maxRecDepth 100000 in
set_option maxHeartbeats 2000000 in
theorem refHigh_any (x : Ld) (hx : LdOk x) (t : List Stp) (days : Int) (ht : TabS t days) (ta : Option Addr) (tc : Nat) (w : World) (rt : TRow w ta t) :
    Calls Try.prog 44 #[.agg #[.int .i64 x.sl, .int .i64 x.sh, .int .i64 x.wl, .int .i64 x.wh], .slice ta t.length tc, .int .i64 days] w fun e w' => e = .returned (.int .i64 (hiTo (stB x t days) 50)) ∧ Gr w w' := by
  obtain ⟨i0, hi, hz0, hz1, hz2⟩ := info_parts infoLd
  have gg := Gr.al w (.cells #[.int .i64 x.sl, .int .i64 x.sh, .int .i64 x.wl, .int .i64 x.wh] 70)
  have hb := Box.new w [.int .i64 x.sl, .int .i64 x.sh, .int .i64 x.wl, .int .i64 x.wh] 70 w.heap.size rfl
  have HS : Hid (∀ (m : Nat) (d : Bool) (a : Option Addr) (cap : Nat) W', m ≤ 50 → stB x t days m = d → LRow W' a (List.replicate m x) → Gr w W' → Calls Try.prog 86 #[.slice a m cap, .slice ta t.length tc, .int .i64 days] W' fun e w' => e = .returned (.bool d) ∧ Gr W' w') := Lib.hid (fun m d a cap W' hm hd hr g => by
    have := refStands_any (List.replicate m x) (fun y hy => by rw [List.eq_of_mem_replicate hy]; exact hx) (by simp; omega) t days ht d hd a ta cap tc W' hr (rt.grow g)
    rw [List.length_replicate] at this
    exact this)
  clear hx ht
  have hrep : ∀ m, (List.replicate (m + 1) x).flatMap encL = (List.replicate m x).flatMap encL ++ encL x := fun m => by rw [List.replicate_succ', flat_snoc]
  have HRep := Lib.hid hrep
  clear hrep
  obtain ⟨p, hp⟩ : ∃ p, stB x t days = p := ⟨_, rfl⟩
  rw [hp] at HS ⊢
  clear hp
  obtain ⟨sl, sh, wl, wh⟩ := x
  dsimp only at gg hb ⊢
  have HRep2 : Hid (∀ m, (List.replicate (m + 1) (⟨sl, sh, wl, wh⟩ : Ld)).flatMap encL = (List.replicate m (⟨sl, sh, wl, wh⟩ : Ld)).flatMap encL ++ [sl, sh, wl, wh].map (fun n => Value.int .i64 n)) := HRep
  go_enter Try.func44, Try.ntmps44
  go_upto_region 1 with fail
  refine wp_abs (fun U => Gr w U ∧ Box U w.heap.size [.int .i64 sl, .int .i64 sh, .int .i64 wl, .int .i64 wh]) ⟨gg, hb⟩ ?_
  clear gg hb
  rintro U ⟨gg, hb⟩
  go_upto_region 2 with fail
  have oA := owns_empty U 70 4
  have gA := gg.tr (Gr.al U (.cells #[] 70))
  have hb2 := hb.keep (Gr.al U (.cells #[] 70))
  obtain ⟨B0, hB0⟩ : ∃ B0, B0 = U.heap.size := ⟨_, rfl⟩
  have hB1 : w.heap.size ≤ B0 := by rw [hB0]; exact gg.size
  have hB2 : w.heap.size < B0 := by rw [hB0]; exact hb.1
  rw [← hB0] at oA ⊢
  clear hB0 hb gg
  refine wp_abs (fun V => Gr w V ∧ Box V w.heap.size [.int .i64 sl, .int .i64 sh, .int .i64 wl, .int .i64 wh] ∧ V.ownsRow B0 70 4 (.slice (some ⟨B0, 0, none⟩) 0 0) 0 []) ⟨gA, hb2, oA⟩ ?_
  clear gA hb2 oA
  rintro V ⟨gA, hb, oA⟩
  go_wp2
  go_loopw [9, 8, 7] (fun i s q wr => Hid (∃ k g cap : Nat, k ≤ 50 ∧ i = .int .i64 ((k + 1 : Nat) : Int) ∧ s = .slice (some ⟨g, 0, none⟩) k cap ∧ q = .int .i64 ((hiTo p k : Nat) : Int) ∧ Gr w wr ∧ Box wr w.heap.size [.int .i64 sl, .int .i64 sh, .int .i64 wl, .int .i64 wh] ∧ wr.ownsRow B0 70 4 (.slice (some ⟨g, 0, none⟩) k cap) k ((List.replicate k (⟨sl, sh, wl, wh⟩ : Ld)).flatMap encL))) (fun i _ _ _ => 51 - (intOf i).toNat)
  case atStart => exact Lib.hid ⟨0, B0, 0, by omega, by go_num, rfl, rfl, gA, hb, by simpa using oA⟩
  case round =>
    clear gA hb oA
    obtain ⟨k, g, cap, hk, rfl, rfl, rfl, gW, hb, oA⟩ := hrel.out
    clear hrel
    by_cases hlt : k < 50
    · obtain ⟨y0, y1, y2, y3⟩ := hb.c4'
      have k1 : k + 1 ≤ maxLen := by unfold maxLen; omega
      have k2 : (k + 1) * 32 ≤ 140737488355328 := by omega
      have gAl := Gr.al wr (.cells #[.int .i64 sl, .int .i64 sh, .int .i64 wl, .int .i64 wh] 70)
      obtain ⟨M, hM⟩ : ∃ M, k + 1 = M := ⟨_, rfl⟩
      obtain ⟨q, hq⟩ : ∃ q, hiTo p k = q := ⟨_, rfl⟩
      have hlow : ∀ r, (Value.slice (some ⟨g, 0, none⟩) k cap).ownBlock = some r → w.heap.size < r := fun r e => by
        have := (oA.lt r e).1
        omega
      have HB := Lib.hid hb
      have HLow := Lib.hid hlow
      clear hlow hb
      rw [hM, hq]
      have hMle : (M : Int) ≤ 50 := by omega
      go_upto_region 6 with (at_builtin; refine wpList_append_lies _ rfl _ _ 53 rfl B0 70 i0 _ 4 32 Try.underlying53 hi hz0 hz1 hz2 rfl (by decide) (.slice (some ⟨g, 0, none⟩) k cap) k _ rfl (owns_keep oA gAl) ⟨wr.heap.size, 0, none⟩ 1 1 ([sl, sh, wl, wh].map (fun n => Value.int .i64 n)) rfl rfl (cell_news _ _ _) (ints_one _) (by omega) k1 k2 (by have := gAl.size; have := (oA.lt g rfl).2; have := (oA.lt g rfl).1; omega) _ rfl ?_; intro g2 cap2 Y hA2 hgr hat hlt2)
      have gY : Gr w Y := (gW.tr gAl).grown' (owns_keep oA gAl) hB1 hgr
      have hbY := (HB.out.keep gAl).grown hgr (fun r e => by have := HLow.out r e; omega)
      have hA3 : Y.ownsRow B0 70 4 (.slice (some ⟨g2, 0, none⟩) M cap2) M ((List.replicate M (⟨sl, sh, wl, wh⟩ : Ld)).flatMap encL) := by
        rw [← hM, HRep2.out]
        exact hA2
      have hrw : LRow Y (some ⟨g2, 0, none⟩) (List.replicate M (⟨sl, sh, wl, wh⟩ : Ld)) := by
        obtain ⟨a3, c3, e3, h3⟩ := owns_row (enc := encL) (l := List.replicate M (⟨sl, sh, wl, wh⟩ : Ld)) (fun _ => rfl) (by simp; omega) (by rw [List.length_replicate]; exact hA3)
        rw [List.length_replicate] at e3
        injection e3 with e3 _ _
        rw [e3]
        exact h3
      refine wp_abs (fun Y => Gr w Y ∧ Box Y w.heap.size [.int .i64 sl, .int .i64 sh, .int .i64 wl, .int .i64 wh] ∧ Y.ownsRow B0 70 4 (.slice (some ⟨g2, 0, none⟩) M cap2) M ((List.replicate M (⟨sl, sh, wl, wh⟩ : Ld)).flatMap encL) ∧ LRow Y (some ⟨g2, 0, none⟩) (List.replicate M (⟨sl, sh, wl, wh⟩ : Ld))) ⟨gY, hbY, hA3, hrw⟩ ?_
      clear gY hbY hA3 hrw hA2 hgr hat hlt2 gAl HB HLow y0 y1 y2 y3 oA
      rintro Z ⟨gZ, hbZ, oZ, rZ⟩
      have HM := Lib.hid hM
      have hT : hiTo p (k + 1) = if p (k + 1) = true then k + 1 else hiTo p k := rfl
      rw [hM, hq] at hT
      clear hM hq
      cases hpM : p M with
      | true =>
        rw [if_pos hpM] at hT
        have HT2 := Lib.hid hT
        have HPM := Lib.hid hpM
        clear hT hpM
        go_wp2_with (go_at_call 86; refine (HS.out M true (some ⟨g2, 0, none⟩) cap2 _ (by omega) HPM.out rZ gZ).mono ?_; rintro e w3 ⟨rfl, g3⟩)
        go_roundw
        case rel => exact Lib.hid ⟨M, g2, cap2, by omega, by go_num, rfl, by rw [HT2.out], gZ.tr g3, hbZ.keep g3, owns_keep oZ g3⟩
        case measure => simp [intOf]; omega
      | false =>
        rw [if_neg (by rw [hpM]; decide)] at hT
        have HT2 := Lib.hid hT
        have HPM := Lib.hid hpM
        clear hT hpM
        go_wp2_with (go_at_call 86; refine (HS.out M false (some ⟨g2, 0, none⟩) cap2 _ (by omega) HPM.out rZ gZ).mono ?_; rintro e w3 ⟨rfl, g3⟩)
        go_roundw
        case rel => exact Lib.hid ⟨M, g2, cap2, by omega, by go_num, rfl, by rw [HT2.out], gZ.tr g3, hbZ.keep g3, owns_keep oZ g3⟩
        case measure => simp [intOf]; omega
    · obtain rfl : k = 50 := by omega
      have hdl : decide (((50 + 1 : Nat) : Int) ≤ 50) = false := by decide
      clear hlt hk
      obtain ⟨q, hq⟩ : ∃ q, hiTo p 50 = q := ⟨_, rfl⟩
      rw [hq]
      have HQ := Lib.hid hq
      clear hq
      go_wp2
      go_ret
      exact ⟨by rw [HQ.out]; rfl, gW⟩

end Go.Proofs.Ytjdeojpapdphoaa

namespace Go.Proofs.Ytjdeojpapdphoaa
set_option linter.unusedVariables false
set_option linter.unusedSimpArgs false
open Go.RowKit

set_option maxRecDepth 100000 in
set_option maxHeartbeats 400000 in
/-- A copy of a table, also of an empty one. -/
theorem lsteps_gen (l : List Stp) (hl : l.length ≤ 1000) (a : Option Addr) (cap : Nat) (w : World) (hr : TRow w a l) :
    Calls Try.prog 34 #[.slice a l.length cap] w fun e w' => ∃ a' cap', e = .returned (.slice a' l.length cap') ∧ TRow w' a' l ∧ l.length ≤ cap' ∧ Gr w w' := by
  rcases Nat.eq_zero_or_pos l.length with h0 | h0
  · obtain rfl : l = [] := List.eq_nil_of_length_eq_zero h0
    cases a with
    | none =>
      go_enter Try.func34, Try.ntmps34
      go_wp2
      go_ret
      exact ⟨some ⟨w.heap.size, 0, none⟩, 0, rfl, RowOf.nil, Nat.le_refl _, Gr.al _ _⟩
    | some ad =>
      obtain ⟨i0, hi, hz0, hz1, hz2⟩ := info_parts infoSt2
      go_enter Try.func34, Try.ntmps34
      go_wp2_with (at_builtin; refine wpList_append_own _ rfl _ _ 54 rfl w.heap.size 136 i0 _ 2 16 Try.underlying54 hi hz0 hz1 hz2 rfl (by decide) _ _ _ rfl (owns_empty w _ _) ad 0 cap [] rfl rfl (fun j u h => by simp at h) (fun u h => by cases h) (by decide) (by decide) (by simp) ?_; intro v' w1 hown hgrow _)
      obtain ⟨a', cap', hv, hr2, hn2, hc2⟩ := owns_row_cap (enc := encT) (l := []) (fun _ => rfl) (by simp) (by simpa using hown)
      subst hv
      have Hr2 := Lib.hid hr2
      have Hn2 := Lib.hid hn2
      clear hr2 hn2 hown
      go_wp2
      go_ret
      first | exact ⟨a', ⟨cap', rfl⟩, Hr2.out, (Gr.al w _).grown' (owns_empty w _ 2) (Nat.le_refl _) hgrow⟩ | exact ⟨a', cap', rfl, Hr2.out, Nat.zero_le _, (Gr.al w _).grown' (owns_empty w _ 2) (Nat.le_refl _) hgrow⟩ | exact ⟨a', cap', rfl, Hr2.out, (Gr.al w _).grown' (owns_empty w _ 2) (Nat.le_refl _) hgrow⟩
  · obtain ⟨b, off, e, _⟩ := hr.addr h0
    subst e
    refine (lsteps_any l hl b off cap w hr).mono ?_
    rintro e w' ⟨v, rfl, ho, hg⟩
    obtain ⟨a', cp, hv, hr2, _, hc2⟩ := owns_row_cap (enc := encT) (l := l) (fun _ => rfl) (by omega) ho
    exact ⟨a', cp, by rw [hv], hr2, hc2, hg⟩

set_option maxRecDepth 100000 in
set_option maxHeartbeats 2000000 in
/-- High of what is not valid. -/
theorem high_err (x : Ld) (t : List Stp) (days R : Int) (hs : storedL 1 [x] t days = R) (hR : R ≠ 0) (c : Option Addr) (cc : Nat) (w : World) (ht : TRow w c t) :
    Calls Try.prog 43 #[.agg #[.int .i64 x.sl, .int .i64 x.sh, .int .i64 x.wl, .int .i64 x.wh], .slice c t.length cc, .int .i64 days] w fun e w' => e = .returned (.tuple #[.int .i64 0, .int .i64 R]) ∧ Gr w w' := by
  have HS := Lib.hid hs
  clear hs
  have hne : (R != 0) = true := by simpa using hR
  go_enter Try.func43, Try.ntmps43
  go_upto_region 2 with fail
  have gU := (Gr.al w (.cells #[.int .i64 x.sl, .int .i64 x.sh, .int .i64 x.wl, .int .i64 x.wh] 70)).tr ((Gr.al _ (.cells #[.int .i64 x.sl, .int .i64 x.sh, .int .i64 x.wl, .int .i64 x.wh] 70)).tr (Gr.al _ (.cells #[.slice (some ⟨w.heap.size + 1, 0, none⟩) 1 1] 53)))
  have oB := (Own.new (w.alloc (.cells #[.int .i64 x.sl, .int .i64 x.sh, .int .i64 x.wl, .int .i64 x.wh] 70)) [.int .i64 x.sl, .int .i64 x.sh, .int .i64 x.wl, .int .i64 x.wh] 70 (w.heap.size + 1) (by simp)).keep (Gr.al _ (.cells #[.slice (some ⟨w.heap.size + 1, 0, none⟩) 1 1] 53))
  have o8 := Own.new ((w.alloc (.cells #[.int .i64 x.sl, .int .i64 x.sh, .int .i64 x.wl, .int .i64 x.wh] 70)).alloc (.cells #[.int .i64 x.sl, .int .i64 x.sh, .int .i64 x.wl, .int .i64 x.wh] 70)) [.slice (some ⟨w.heap.size + 1, 0, none⟩) 1 1] 53 (w.heap.size + 1 + 1) (by simp)
  refine wp_abs (fun U => Gr w U ∧ Own U (w.heap.size + 1) [.int .i64 x.sl, .int .i64 x.sh, .int .i64 x.wl, .int .i64 x.wh] ∧ Own U (w.heap.size + 1 + 1) [.slice (some ⟨w.heap.size + 1, 0, none⟩) 1 1]) ⟨gU, oB, o8⟩ ?_
  clear gU oB o8
  rintro U ⟨gU, oB, o8⟩
  have rB : LRow U (some ⟨w.heap.size + 1, 0, none⟩) [x] := by
    refine ⟨by simp, fun j y hy => ?_⟩
    have hj : j = 0 := by
      have := (List.getElem?_eq_some_iff.1 hy).1
      simpa using this
    subst hj
    have ey : x = y := by simpa using hy
    subst ey
    exact ⟨_, _, rfl, oB.1.1, fun i v hv => by simpa using oB.1.2 i v hv⟩
  have q8 := o8.1.c1
  have cS := stored_any 1 [x] t days (some ⟨w.heap.size + 1, 0, none⟩) c 1 cc U rB (ht.grow gU)
  rw [HS.out] at cS
  have CS := Lib.hid cS
  have GU := Lib.hid gU
  clear cS oB o8 rB gU
  go_wp2_with (go_at_call 75; refine CS.out.mono ?_; rintro e w1 ⟨rfl, g1⟩)
  go_ret2
  exact ⟨rfl, GU.out.tr g1⟩

theorem stored_split (x : Ld) (t : List Stp) (days : Int) (most : Int) (l : List Ld) : storedL most l t days = if boxedL most l = 0 then throughL t days else boxedL most l := rfl

theorem row_one {U : World} {b : Nat} {x : Ld} (oB : Box U b [.int .i64 x.sl, .int .i64 x.sh, .int .i64 x.wl, .int .i64 x.wh]) : LRow U (some ⟨b, 0, none⟩) [x] := by
  refine ⟨by simp, fun j y hy => ?_⟩
  have hj : j = 0 := by
    have := (List.getElem?_eq_some_iff.1 hy).1
    simpa using this
  subst hj
  have ey : x = y := by simpa using hy
  subst ey
  exact ⟨_, _, rfl, oB.1, fun i v hv => by simpa using oB.2 i v hv⟩

/-- How many stand, by both. -/
theorem high_same {x : Ld} (hx : LdOk x) {t : List Stp} {days : Int} (h : TabOk t days) {r : Int} (r0 : 0 ≤ r) (r1 : r ≤ 50) (h1 : ∀ a, 0 ≤ a → a < r → decide (x.sl * lastL t days / 1000 < x.wh * a) = false) (h2 : ∀ a, r ≤ a → a < 50 → decide (x.sl * lastL t days / 1000 < x.wh * a) = true) : r = ((hiTo (stB x t days) 50 : Nat) : Int) := by
  have e := hiTo_is (p := stB x t days) (r := r.toNat) (fun a ha => by
    have := h1 (a : Int) (by omega) (by omega)
    rw [stB_is hx h a]
    simpa using this) 50 (fun a ha ha2 => by
    have := h2 (a : Int) (by omega) (by omega)
    rw [stB_is hx h a]
    simpa using this)
  rw [e]
  omega

set_option maxRecDepth 100000 in
set_option maxHeartbeats 4000000 in
theorem crushHighs_any (x : Ld) (t : List Stp) (days : Int) (ta : Option Addr) (tc : Nat) (w : World) (rt : TRow w ta t) :
    Calls Try.prog 7 #[.agg #[.int .i64 x.sl, .int .i64 x.sh, .int .i64 x.wl, .int .i64 x.wh], .slice ta t.length tc, .int .i64 days] w fun e w' => e = .returned (.bool true) ∧ Gr w w' := by
  have gg := Gr.al w (.cells #[.int .i64 x.sl, .int .i64 x.sh, .int .i64 x.wl, .int .i64 x.wh] 70)
  have hb := Box.new w [.int .i64 x.sl, .int .i64 x.sh, .int .i64 x.wl, .int .i64 x.wh] 70 w.heap.size rfl
  have ht0 := rt.1
  by_cases h15 : 15 < t.length
  · have d0 : decide ((15 : Int) < (t.length : Int)) = true := by simp; omega
    go_enter Try.func7, Try.ntmps7
    go_wp2_with (go_at_call 16; refine (known_any _).mono ?_; rintro e w6 ⟨rfl, g6⟩)
    go_ret
    exact ⟨rfl, gg.tr g6⟩
  · have d0 : decide ((15 : Int) < (t.length : Int)) = false := by simp; omega
    have t15 : t.length ≤ 15 := by omega
    clear h15
    have HSp : Hid (∀ (W' : World), Gr w W' → Calls Try.prog 34 #[.slice ta t.length tc] W' fun e w' => ∃ a cp, e = .returned (.slice a t.length cp) ∧ TRow w' a t ∧ t.length ≤ cp ∧ Gr W' w') := Lib.hid (fun W' g => lsteps_gen t (by omega) ta tc W' (rt.grow g))
    have HTb : Hid (∀ (a : Option Addr) (c : Nat) (W' : World), TRow W' a t → Gr w W' → Calls Try.prog 38 #[.slice a t.length c, .slice ta t.length tc] W' fun e w' => e = .returned (.bool true) ∧ Gr W' w') := Lib.hid (fun a c W' hr g => refTables_any t a ta c tc W' hr (rt.grow g))
    obtain ⟨R1, hR1⟩ : ∃ R, boxedL 1 [x] = R := ⟨_, rfl⟩
    obtain ⟨R2, hR2⟩ : ∃ R, throughL t days = R := ⟨_, rfl⟩
    have hS := stored_split x t days 1 [x]
    rw [hR1, hR2] at hS
    have HSt : Hid (∀ (W' : World), Calls Try.prog 39 #[.slice (some ⟨W'.heap.size, 0, none⟩) 1 1, .int .i64 1] (W'.alloc (.cells #[.int .i64 x.sl, .int .i64 x.sh, .int .i64 x.wl, .int .i64 x.wh] 70)) fun e w' => e = .returned (.int .i64 R1) ∧ Gr W' w') := Lib.hid (fun W' => by
      have := refStack_any 1 [x] R1 hR1 (some ⟨W'.heap.size, 0, none⟩) 1 _ (row_one (Box.new W' [.int .i64 x.sl, .int .i64 x.sh, .int .i64 x.wl, .int .i64 x.wh] 70 W'.heap.size rfl))
      exact this.mono (fun e w' ⟨h1, h2⟩ => ⟨h1, (Gr.al W' _).tr h2⟩))
    have HTh : Hid (∀ (W' : World), Gr w W' → Calls Try.prog 41 #[.slice ta t.length tc, .int .i64 days] W' fun e w' => e = .returned (.int .i64 R2) ∧ Gr W' w') := Lib.hid (fun W' g => refThrough_any t days R2 hR2 ta tc W' (rt.grow g))
    obtain ⟨q0, q1, q2, q3⟩ := hb.c4'
    by_cases h1 : R1 = 0
    · rw [if_pos h1] at hS
      subst h1
      by_cases h2 : R2 = 0
      · subst h2
        obtain ⟨⟨_, hl⟩, hT⟩ := stored_parts hS
        have hx := (hl x (by simp)).1
        have hTS : TabS t days := ⟨hT, table_strict (by
          unfold throughL at hR2
          cases c : tableL t with
          | true => rfl
          | false => rw [c] at hR2; simp at hR2)⟩
        obtain ⟨k0, k1⟩ := last_bd hT
        have HHi : Hid (∀ (a : Option Addr) (c : Nat) (W' : World), TRow W' a t → t.length ≤ c → Calls Try.prog 43 #[.agg #[.int .i64 x.sl, .int .i64 x.sh, .int .i64 x.wl, .int .i64 x.wh], .slice a t.length c, .int .i64 days] W' fun e w' => e = .returned (.tuple #[.int .i64 ((hiTo (stB x t days) 50 : Nat) : Int), .int .i64 0]) ∧ Gr W' w') := Lib.hid (fun a c W' hr hc => by
          refine (high_ok x hx t days hS (by omega) hT.day (until_pos hT) (until_len t days) k0 k1 a c hc W' hr).mono ?_
          rintro e w' ⟨r, rfl, r0, r1, h1, h2, g⟩
          exact ⟨by rw [high_same hx hT r0 r1 h1 h2], g⟩)
        have HRH : Hid (∀ (W' : World), Gr w W' → Calls Try.prog 44 #[.agg #[.int .i64 x.sl, .int .i64 x.sh, .int .i64 x.wl, .int .i64 x.wh], .slice ta t.length tc, .int .i64 days] W' fun e w' => e = .returned (.int .i64 ((hiTo (stB x t days) 50 : Nat) : Int)) ∧ Gr W' w') := Lib.hid (fun W' g => refHigh_any x hx t days hTS ta tc W' (rt.grow g))
        obtain ⟨N, hN⟩ : ∃ N : Int, ((hiTo (stB x t days) 50 : Nat) : Int) = N := ⟨_, rfl⟩
        rw [hN] at HHi HRH
        clear hN hS hR1 hR2 hl hT hx hTS k0 k1
        go_enter Try.func7, Try.ntmps7
        go_wp2_with (first
          | (go_at_call 34; refine (HSp.out _ gg).mono ?_; rintro e w1 ⟨a1, c1, rfl, r1, hc1, g1⟩; replace hb := hb.keep g1; clear q0 q1 q2 q3; obtain ⟨q0, q1, q2, q3⟩ := hb.c4')
          | (go_at_call 43; refine (HHi.out a1 c1 _ r1 hc1).mono ?_; rintro e w2 ⟨rfl, g2⟩; replace hb := hb.keep g2; clear q0 q1 q2 q3; obtain ⟨q0, q1, q2, q3⟩ := hb.c4')
          | (go_at_call 38; refine (HTb.out a1 c1 _ (r1.grow g2) (gg.tr (g1.tr g2))).mono ?_; rintro e w3 ⟨rfl, g3⟩; replace hb := hb.keep g3; clear q0 q1 q2 q3; obtain ⟨q0, q1, q2, q3⟩ := hb.c4')
          | (go_at_call 39; refine (HSt.out w3).mono ?_; rintro e w4 ⟨rfl, g4⟩; replace hb := hb.keep g4; clear q0 q1 q2 q3; obtain ⟨q0, q1, q2, q3⟩ := hb.c4')
          | (go_at_call 41; refine (HTh.out _ (gg.tr (g1.tr (g2.tr (g3.tr g4))))).mono ?_; rintro e w5 ⟨rfl, g5⟩; replace hb := hb.keep g5; clear q0 q1 q2 q3; obtain ⟨q0, q1, q2, q3⟩ := hb.c4')
          | (go_at_call 44; refine (HRH.out _ (gg.tr (g1.tr (g2.tr (g3.tr (g4.tr g5)))))).mono ?_; rintro e w6 ⟨rfl, g6⟩)
          | (go_at_call 16; refine (known_any _).mono ?_; rintro e w7 ⟨rfl, g7⟩))
        go_ret
        exact ⟨rfl, gg.tr (g1.tr (g2.tr (g3.tr (g4.tr (g5.tr (g6.tr g7))))))⟩
      · have hne : (R2 != 0) = true := by simpa using h2
        have HHi : Hid (∀ (a : Option Addr) (c : Nat) (W' : World), TRow W' a t → Calls Try.prog 43 #[.agg #[.int .i64 x.sl, .int .i64 x.sh, .int .i64 x.wl, .int .i64 x.wh], .slice a t.length c, .int .i64 days] W' fun e w' => e = .returned (.tuple #[.int .i64 0, .int .i64 R2]) ∧ Gr W' w') := Lib.hid (fun a c W' hr => high_err x t days R2 hS h2 a c W' hr)
        clear hS hR1 hR2 h2
        go_enter Try.func7, Try.ntmps7
        go_wp2_with (first
          | (go_at_call 34; refine (HSp.out _ gg).mono ?_; rintro e w1 ⟨a1, c1, rfl, r1, hc1, g1⟩; replace hb := hb.keep g1; clear q0 q1 q2 q3; obtain ⟨q0, q1, q2, q3⟩ := hb.c4')
          | (go_at_call 43; refine (HHi.out a1 c1 _ r1).mono ?_; rintro e w2 ⟨rfl, g2⟩; replace hb := hb.keep g2; clear q0 q1 q2 q3; obtain ⟨q0, q1, q2, q3⟩ := hb.c4')
          | (go_at_call 38; refine (HTb.out a1 c1 _ (r1.grow g2) (gg.tr (g1.tr g2))).mono ?_; rintro e w3 ⟨rfl, g3⟩; replace hb := hb.keep g3; clear q0 q1 q2 q3; obtain ⟨q0, q1, q2, q3⟩ := hb.c4')
          | (go_at_call 39; refine (HSt.out w3).mono ?_; rintro e w4 ⟨rfl, g4⟩; replace hb := hb.keep g4; clear q0 q1 q2 q3; obtain ⟨q0, q1, q2, q3⟩ := hb.c4')
          | (go_at_call 41; refine (HTh.out _ (gg.tr (g1.tr (g2.tr (g3.tr g4))))).mono ?_; rintro e w5 ⟨rfl, g5⟩; replace hb := hb.keep g5; clear q0 q1 q2 q3; obtain ⟨q0, q1, q2, q3⟩ := hb.c4')
          | (go_at_call 16; refine (known_any _).mono ?_; rintro e w7 ⟨rfl, g7⟩))
        go_ret
        exact ⟨rfl, gg.tr (g1.tr (g2.tr (g3.tr (g4.tr (g5.tr g7)))))⟩
    · rw [if_neg h1] at hS
      have hne : (R1 != 0) = true := by simpa using h1
      have hne2 : (R1 == 0) = false := by simpa using h1
      have HHi : Hid (∀ (a : Option Addr) (c : Nat) (W' : World), TRow W' a t → Calls Try.prog 43 #[.agg #[.int .i64 x.sl, .int .i64 x.sh, .int .i64 x.wl, .int .i64 x.wh], .slice a t.length c, .int .i64 days] W' fun e w' => e = .returned (.tuple #[.int .i64 0, .int .i64 R1]) ∧ Gr W' w') := Lib.hid (fun a c W' hr => high_err x t days R1 hS h1 a c W' hr)
      clear hS hR1 hR2 h1
      go_enter Try.func7, Try.ntmps7
      go_wp2_with (first
        | (go_at_call 34; refine (HSp.out _ gg).mono ?_; rintro e w1 ⟨a1, c1, rfl, r1, hc1, g1⟩; replace hb := hb.keep g1; clear q0 q1 q2 q3; obtain ⟨q0, q1, q2, q3⟩ := hb.c4')
        | (go_at_call 43; refine (HHi.out a1 c1 _ r1).mono ?_; rintro e w2 ⟨rfl, g2⟩; replace hb := hb.keep g2; clear q0 q1 q2 q3; obtain ⟨q0, q1, q2, q3⟩ := hb.c4')
        | (go_at_call 38; refine (HTb.out a1 c1 _ (r1.grow g2) (gg.tr (g1.tr g2))).mono ?_; rintro e w3 ⟨rfl, g3⟩; replace hb := hb.keep g3; clear q0 q1 q2 q3; obtain ⟨q0, q1, q2, q3⟩ := hb.c4')
        | (go_at_call 39; refine (HSt.out w3).mono ?_; rintro e w4 ⟨rfl, g4⟩; replace hb := hb.keep g4; clear q0 q1 q2 q3; obtain ⟨q0, q1, q2, q3⟩ := hb.c4')
        | (go_at_call 16; refine (known_any _).mono ?_; rintro e w7 ⟨rfl, g7⟩))
      go_ret
      exact ⟨rfl, gg.tr (g1.tr (g2.tr (g3.tr (g4.tr g7))))⟩

end Go.Proofs.Ytjdeojpapdphoaa

namespace Go.Proofs.Ytjdeojpapdphoaa
set_option linter.unusedVariables false
set_option linter.unusedSimpArgs false
open Go.RowKit

set_option maxRecDepth 100000 in
set_option maxHeartbeats 400000 in
/-- A copy of boxes, also of none. -/
theorem lboxes_gen (l : List Ld) (hl : l.length ≤ 1000) (a : Option Addr) (cap : Nat) (w : World) (hr : LRow w a l) :
    Calls Try.prog 33 #[.slice a l.length cap] w fun e w' => ∃ a' cap', e = .returned (.slice a' l.length cap') ∧ LRow w' a' l ∧ l.length ≤ cap' ∧ Gr w w' := by
  rcases Nat.eq_zero_or_pos l.length with h0 | h0
  · obtain rfl : l = [] := List.eq_nil_of_length_eq_zero h0
    cases a with
    | none =>
      go_enter Try.func33, Try.ntmps33
      go_wp2
      go_ret
      exact ⟨some ⟨w.heap.size, 0, none⟩, 0, rfl, RowOf.nil, Nat.le_refl _, Gr.al _ _⟩
    | some ad =>
      obtain ⟨i0, hi, hz0, hz1, hz2⟩ := info_parts infoLd
      go_enter Try.func33, Try.ntmps33
      go_wp2_with (at_builtin; refine wpList_append_own _ rfl _ _ 53 rfl w.heap.size 70 i0 _ 4 32 Try.underlying53 hi hz0 hz1 hz2 rfl (by decide) _ _ _ rfl (owns_empty w _ _) ad 0 cap [] rfl rfl (fun j u h => by simp at h) (fun u h => by cases h) (by decide) (by decide) (by simp) ?_; intro v' w1 hown hgrow _)
      obtain ⟨a', cap', hv, hr2, hn2, hc2⟩ := owns_row_cap (enc := encL) (l := []) (fun _ => rfl) (by simp) (by simpa using hown)
      subst hv
      have Hr2 := Lib.hid hr2
      have Hn2 := Lib.hid hn2
      clear hr2 hn2 hown
      go_wp2
      go_ret
      first | exact ⟨a', ⟨cap', rfl⟩, Hr2.out, (Gr.al w _).grown' (owns_empty w _ 4) (Nat.le_refl _) hgrow⟩ | exact ⟨a', cap', rfl, Hr2.out, Nat.zero_le _, (Gr.al w _).grown' (owns_empty w _ 4) (Nat.le_refl _) hgrow⟩
  · obtain ⟨b, off, e, _⟩ := hr.addr h0
    subst e
    refine (lboxes_any l hl b off cap w hr).mono ?_
    rintro e w' ⟨v, rfl, ho, hg⟩
    obtain ⟨a', cp, hv, hr2, _, hc2⟩ := owns_row_cap (enc := encL) (l := l) (fun _ => rfl) (by omega) ho
    exact ⟨a', cp, by rw [hv], hr2, hc2, hg⟩

set_option maxRecDepth 100000 in
set_option maxHeartbeats 1000000 in
/-- Fall of what is not valid. -/
theorem fall_err (l : List Ld) (t : List Stp) (days R : Int) (hs : storedL 50 l t days = R) (hR : R ≠ 0) (a c : Option Addr) (cap cc : Nat) (w : World) (hr : LRow w a l) (ht : TRow w c t) :
    Calls Try.prog 36 #[.slice a l.length cap, .slice c t.length cc, .int .i64 days] w fun e w' => e = .returned (.tuple #[.int .i64 0, .int .i64 0, .int .i64 R]) ∧ Gr w w' := by
  have cS := stored_any 50 l t days a c cap cc w hr ht
  rw [hs] at cS
  have CS := Lib.hid cS
  clear cS hs
  have hne : (R != 0) = true := by simpa using hR
  go_enter Try.func36, Try.ntmps36
  go_wp2_with (go_at_call 75; refine CS.out.mono ?_; rintro e w1 ⟨rfl, g1⟩)
  exact bodyPost_ret (v := .tuple #[.int .i64 0, .int .i64 0, .int .i64 R]) (by simp [results, Try.results36, go_sem]) rfl ⟨rfl, g1⟩

set_option maxRecDepth 100000 in
set_option maxHeartbeats 1000000 in
/-- Loads of what is not valid. -/
theorem loads_err (l : List Ld) (R : Int) (hs : boxedL 50 l = R) (hR : R ≠ 0) (a : Option Addr) (cap : Nat) (w : World) (hr : LRow w a l) :
    Calls Try.prog 35 #[.slice a l.length cap] w fun e w' => e = .returned (.tuple #[.slice none 0 0, .int .i64 R]) ∧ Gr w w' := by
  refine (callsIn_wide (n := 20)).1 ?_
  have cS := boxed_any 50 l a cap w hr
  rw [hs] at cS
  have CS := Lib.hid cS
  clear cS hs
  have hne : (R != 0) = true := by simpa using hR
  refine callsIn_of_wp_marks Try.func35 rfl trivial ?_ rfl
  simp only [Try.ntmps35, List.size_toArray, List.length_cons, List.length_nil, Nat.reduceAdd, Nat.reduceSub, Array.replicate_succ, Array.replicate_zero, List.push_toArray, List.append_toArray, List.nil_append, List.cons_append]
  gi_wp2_with (refine ⟨trivial, ?_⟩; gi_at_call 73; refine (callsIn_wide.2 CS.out).mono ?_; rintro e w1 ⟨rfl, g1⟩)
  refine leaves_marks [] _ (fun E hE => by cases hE) (by simp) fun w' hk' => ?_
  exact ⟨.tuple #[.slice none 0 0, .int .i64 R], by simp [results, Try.results35, go_sem], rfl, g1.tr (Kx.toGr (hk'.mono (fun i e => by simp at e)))⟩

set_option maxRecDepth 100000 in
set_option maxHeartbeats 4000000 in
theorem crushFalls_any (l : List Ld) (t : List Stp) (days : Int) (la ta : Option Addr) (lc tc : Nat) (w : World) (rl : LRow w la l) (rt : TRow w ta t) :
    Calls Try.prog 6 #[.slice la l.length lc, .slice ta t.length tc, .int .i64 days] w fun e w' => e = .returned (.bool true) ∧ Gr w w' := by
  have hl0 := rl.1
  have ht0 := rt.1
  by_cases h60 : 60 < l.length
  · have d0 : decide ((60 : Int) < (l.length : Int)) = true := by simp; omega
    go_enter Try.func6, Try.ntmps6
    go_wp2_with (go_at_call 16; refine (known_any _).mono ?_; rintro e w9 ⟨rfl, g9⟩)
    go_ret
    exact ⟨rfl, g9⟩
  have d0 : decide ((60 : Int) < (l.length : Int)) = false := by simp; omega
  have l60 : l.length ≤ 60 := by omega
  clear h60
  by_cases h15 : 15 < t.length
  · have d1 : decide ((15 : Int) < (t.length : Int)) = true := by simp; omega
    go_enter Try.func6, Try.ntmps6
    go_wp2_with (go_at_call 16; refine (known_any _).mono ?_; rintro e w9 ⟨rfl, g9⟩)
    go_ret
    exact ⟨rfl, g9⟩
  have d1 : decide ((15 : Int) < (t.length : Int)) = false := by simp; omega
  have t15 : t.length ≤ 15 := by omega
  clear h15
  have HBx : Hid (∀ (W' : World), Gr w W' → Calls Try.prog 33 #[.slice la l.length lc] W' fun e w' => ∃ a cp, e = .returned (.slice a l.length cp) ∧ LRow w' a l ∧ l.length ≤ cp ∧ Gr W' w') := Lib.hid (fun W' g => lboxes_gen l (by omega) la lc W' (rl.grow g))
  have HSp : Hid (∀ (W' : World), Gr w W' → Calls Try.prog 34 #[.slice ta t.length tc] W' fun e w' => ∃ a cp, e = .returned (.slice a t.length cp) ∧ TRow w' a t ∧ t.length ≤ cp ∧ Gr W' w') := Lib.hid (fun W' g => lsteps_gen t (by omega) ta tc W' (rt.grow g))
  have HTb : Hid (∀ (a : Option Addr) (c : Nat) (W' : World), TRow W' a t → Gr w W' → Calls Try.prog 38 #[.slice a t.length c, .slice ta t.length tc] W' fun e w' => e = .returned (.bool true) ∧ Gr W' w') := Lib.hid (fun a c W' hr g => refTables_any t a ta c tc W' hr (rt.grow g))
  have HSk : Hid (∀ (a : Option Addr) (c : Nat) (W' : World), LRow W' a l → Gr w W' → Calls Try.prog 37 #[.slice a l.length c, .slice la l.length lc] W' fun e w' => e = .returned (.bool true) ∧ Gr W' w') := Lib.hid (fun a c W' hr g => refStacks_any l a la c lc W' hr (rl.grow g))
  obtain ⟨R1, hR1⟩ : ∃ R, boxedL 50 l = R := ⟨_, rfl⟩
  obtain ⟨R2, hR2⟩ : ∃ R, throughL t days = R := ⟨_, rfl⟩
  have hS : storedL 50 l t days = if boxedL 50 l = 0 then throughL t days else boxedL 50 l := rfl
  rw [hR1, hR2] at hS
  have HSt : Hid (∀ (W' : World), Gr w W' → Calls Try.prog 39 #[.slice la l.length lc, .int .i64 50] W' fun e w' => e = .returned (.int .i64 R1) ∧ Gr W' w') := Lib.hid (fun W' g => refStack_any 50 l R1 hR1 la lc W' (rl.grow g))
  have HTh : Hid (∀ (W' : World), Gr w W' → Calls Try.prog 41 #[.slice ta t.length tc, .int .i64 days] W' fun e w' => e = .returned (.int .i64 R2) ∧ Gr W' w') := Lib.hid (fun W' g => refThrough_any t days R2 hR2 ta tc W' (rt.grow g))
  by_cases h1 : R1 = 0
  · rw [if_pos h1] at hS
    subst h1
    have hok := (boxed_parts hR1).2
    have HLd : Hid (∀ (i : Nat) (W' : World), i < l.length → Gr w W' → Calls Try.prog 40 #[.slice la l.length lc, .int .i64 (i : Int)] W' fun e w' => e = .returned (.agg #[.int .i64 (sumLo (l.drop (i + 1))), .int .i64 (sumHi (l.drop (i + 1)))]) ∧ Gr W' w') := Lib.hid (fun i W' hi g => refLoad_any l (fun x hx => (hok x hx).1) (by omega) i (by omega) la lc W' (rl.grow g))
    obtain ⟨LL, hLL⟩ : ∃ L, spansL l = L := ⟨_, rfl⟩
    have lLL : LL.length = l.length := by rw [← hLL]; exact spansL_len l
    have HLo : Hid (∀ (a : Option Addr) (cp : Nat) (W' : World), LRow W' a l → Calls Try.prog 35 #[.slice a l.length cp] W' fun e w' => ∃ b c, e = .returned (.tuple #[.slice b l.length c, .int .i64 0]) ∧ SRow w' b LL ∧ Gr W' w') := Lib.hid (fun a cp W' hr => by
      have := loads_ok l hR1 a cp W' hr
      rw [hLL, lLL] at this
      exact this)
    have HLL := Lib.hid hLL
    clear lLL hLL
    by_cases h2 : R2 = 0
    · subst h2
      have hT := (stored_parts hS).2
      have hTS : TabS t days := ⟨hT, table_strict (by
        unfold throughL at hR2
        cases c : tableL t with
        | true => rfl
        | false => rw [c] at hR2; simp at hR2)⟩
      have HRF0 := Lib.hid (fun (W' : World) (g : Gr w W') => refFall_any l (fun x hx => (hok x hx).1) (by omega) t days hTS la ta lc tc W' (rl.grow g) (rt.grow g))
      have HFa0 := Lib.hid (fun (a c : Option Addr) (cp cc : Nat) (W' : World) (hcc : t.length ≤ cc) (hr : LRow W' a l) (ht : TRow W' c t) => fall_ok l t days hS a c cp cc hcc W' hr ht)
      clear hok hS hR1 hR2 hT hTS
      cases hO : fallO l (untilL t days) with
      | none =>
        have HRF := HRF0.out
        rw [fallT_none hO] at HRF
        have HFa := HFa0.out
        rw [fallV_none hO] at HFa
        replace HRF := Lib.hid HRF
        replace HFa := Lib.hid HFa
        clear HRF0 HFa0 hO
        go_enter Try.func6, Try.ntmps6
        go_upto_region 13 with (first
            | (go_at_call 33; refine (HBx.out _ (Below.refl _ _)).mono ?_; rintro e w1 ⟨a1, c1, rfl, r1, hc1, g1⟩)
            | (go_at_call 34; refine (HSp.out _ g1).mono ?_; rintro e w2 ⟨a2, c2, rfl, r2, hc2, g2⟩)
            | (go_at_call 35; refine (HLo.out a1 c1 _ (r1.grow g2)).mono ?_; rintro e w3 ⟨x4, y4, rfl, r4, g3⟩)
            | (go_at_call 36; refine (HFa.out a1 a2 c1 c2 _ hc2 (r1.grow (g2.tr g3)) (r2.grow g3)).mono ?_; rintro e w4 ⟨rfl, g4⟩)
            | (go_at_call 37; refine (HSk.out a1 c1 _ (r1.grow (g2.tr (g3.tr g4))) (g1.tr (g2.tr (g3.tr g4)))).mono ?_; rintro e w5 ⟨rfl, g5⟩)
            | (go_at_call 38; refine (HTb.out a2 c2 _ (r2.grow (g3.tr (g4.tr g5))) (g1.tr (g2.tr (g3.tr (g4.tr g5))))).mono ?_; rintro e w6 ⟨rfl, g6⟩)
            | (go_at_call 39; refine (HSt.out _ (g1.tr (g2.tr (g3.tr (g4.tr (g5.tr g6)))))).mono ?_; rintro e w7 ⟨rfl, g7⟩))
        refine wp_abs (fun X => Gr w X ∧ SRow X x4 LL) ⟨g1.tr (g2.tr (g3.tr (g4.tr (g5.tr (g6.tr g7))))), r4.grow (g4.tr (g5.tr (g6.tr g7)))⟩ ?_
        clear r1 r2 r4 g1 g2 g3 g4 g5 g6 g7 HFa HLo HBx HSp HTb HSk HSt
        rintro X ⟨gX, r4⟩
        go_wp2
        go_loopw [15] (fun i wr => Hid (∃ k : Nat, k ≤ l.length ∧ i = .int .i64 k ∧ Gr X wr)) (fun i _ => l.length - (intOf i).toNat)
        case atStart => exact Lib.hid ⟨0, Nat.zero_le _, rfl, Below.refl _ _⟩
        case round =>
          obtain ⟨k, hk, rfl, gW⟩ := hrel.out
          clear hrel
          by_cases hlt : k < l.length
          · have hlm := spans_at hlt
            rw [HLL.out] at hlm
            have hld := HLd.out k
            obtain ⟨lo, hlo⟩ : ∃ z, sumLo (l.drop (k + 1)) = z := ⟨_, rfl⟩
            obtain ⟨hi', hhi⟩ : ∃ z, sumHi (l.drop (k + 1)) = z := ⟨_, rfl⟩
            rw [hlo, hhi] at hlm hld
            have HLk := Lib.hid hld
            clear hld
            obtain ⟨bs, os, rfl, _, c0, c1⟩ := SRow.get (r4.grow gW) hlm
            dsimp only at c0 c1
            have y0 := From.keep c0
            have y1 := From.keep c1
            clear hlm hlo hhi c0 c1
            go_upto_region 16 with fail
            refine wp_region_gr (by kernel_rfl) (by kernel_rfl) ?_
            repeat (go_big_quiet_step (first
              | (go_at_call 40; (with_reducible exact Calls.gr (HLk.out _ hlt (gX.tr (gW.tr (From.property _))))))))
            refine wpQuiet_nil ?_
            rintro _ ⟨u, rfl⟩
            clear y0 y1
            go_wp2
            go_roundw
            case rel => exact Lib.hid ⟨k + 1, by omega, by go_num, gW.tr u.property⟩
            case measure => simp [intOf]; omega
          · obtain rfl : k = l.length := by omega
            clear hlt hk
            have gZ := gX.tr gW
            go_wp2_with (first
              | (go_at_call 41; refine (HTh.out _ gZ).mono ?_; rintro e w8 ⟨rfl, g8⟩)
              | (go_at_call 42; refine (HRF.out _ (gZ.tr g8)).mono ?_; rintro e w10 ⟨rfl, g10⟩)
              | (go_at_call 16; refine (known_any _).mono ?_; rintro e w9 ⟨rfl, g9⟩))
            go_ret
            exact ⟨rfl, gZ.tr (g8.tr (g10.tr g9))⟩
      | some q =>
        obtain ⟨s, i⟩ := q
        have HRF := HRF0.out
        rw [fallT_some hO] at HRF
        have HFa := HFa0.out
        rw [fallV_some hO] at HFa
        replace HRF := Lib.hid HRF
        replace HFa := Lib.hid HFa
        clear HRF0 HFa0 hO
        go_enter Try.func6, Try.ntmps6
        go_upto_region 13 with (first
            | (go_at_call 33; refine (HBx.out _ (Below.refl _ _)).mono ?_; rintro e w1 ⟨a1, c1, rfl, r1, hc1, g1⟩)
            | (go_at_call 34; refine (HSp.out _ g1).mono ?_; rintro e w2 ⟨a2, c2, rfl, r2, hc2, g2⟩)
            | (go_at_call 35; refine (HLo.out a1 c1 _ (r1.grow g2)).mono ?_; rintro e w3 ⟨x4, y4, rfl, r4, g3⟩)
            | (go_at_call 36; refine (HFa.out a1 a2 c1 c2 _ hc2 (r1.grow (g2.tr g3)) (r2.grow g3)).mono ?_; rintro e w4 ⟨rfl, g4⟩)
            | (go_at_call 37; refine (HSk.out a1 c1 _ (r1.grow (g2.tr (g3.tr g4))) (g1.tr (g2.tr (g3.tr g4)))).mono ?_; rintro e w5 ⟨rfl, g5⟩)
            | (go_at_call 38; refine (HTb.out a2 c2 _ (r2.grow (g3.tr (g4.tr g5))) (g1.tr (g2.tr (g3.tr (g4.tr g5))))).mono ?_; rintro e w6 ⟨rfl, g6⟩)
            | (go_at_call 39; refine (HSt.out _ (g1.tr (g2.tr (g3.tr (g4.tr (g5.tr g6)))))).mono ?_; rintro e w7 ⟨rfl, g7⟩))
        refine wp_abs (fun X => Gr w X ∧ SRow X x4 LL) ⟨g1.tr (g2.tr (g3.tr (g4.tr (g5.tr (g6.tr g7))))), r4.grow (g4.tr (g5.tr (g6.tr g7)))⟩ ?_
        clear r1 r2 r4 g1 g2 g3 g4 g5 g6 g7 HFa HLo HBx HSp HTb HSk HSt
        rintro X ⟨gX, r4⟩
        go_wp2
        go_loopw [15] (fun i wr => Hid (∃ k : Nat, k ≤ l.length ∧ i = .int .i64 k ∧ Gr X wr)) (fun i _ => l.length - (intOf i).toNat)
        case atStart => exact Lib.hid ⟨0, Nat.zero_le _, rfl, Below.refl _ _⟩
        case round =>
          obtain ⟨k, hk, rfl, gW⟩ := hrel.out
          clear hrel
          by_cases hlt : k < l.length
          · have hlm := spans_at hlt
            rw [HLL.out] at hlm
            have hld := HLd.out k
            obtain ⟨lo, hlo⟩ : ∃ z, sumLo (l.drop (k + 1)) = z := ⟨_, rfl⟩
            obtain ⟨hi', hhi⟩ : ∃ z, sumHi (l.drop (k + 1)) = z := ⟨_, rfl⟩
            rw [hlo, hhi] at hlm hld
            have HLk := Lib.hid hld
            clear hld
            obtain ⟨bs, os, rfl, _, c0, c1⟩ := SRow.get (r4.grow gW) hlm
            dsimp only at c0 c1
            have y0 := From.keep c0
            have y1 := From.keep c1
            clear hlm hlo hhi c0 c1
            go_upto_region 16 with fail
            refine wp_region_gr (by kernel_rfl) (by kernel_rfl) ?_
            repeat (go_big_quiet_step (first
              | (go_at_call 40; (with_reducible exact Calls.gr (HLk.out _ hlt (gX.tr (gW.tr (From.property _))))))))
            refine wpQuiet_nil ?_
            rintro _ ⟨u, rfl⟩
            clear y0 y1
            go_wp2
            go_roundw
            case rel => exact Lib.hid ⟨k + 1, by omega, by go_num, gW.tr u.property⟩
            case measure => simp [intOf]; omega
          · obtain rfl : k = l.length := by omega
            clear hlt hk
            have gZ := gX.tr gW
            go_wp2_with (first
              | (go_at_call 41; refine (HTh.out _ gZ).mono ?_; rintro e w8 ⟨rfl, g8⟩)
              | (go_at_call 42; refine (HRF.out _ (gZ.tr g8)).mono ?_; rintro e w10 ⟨rfl, g10⟩)
              | (go_at_call 16; refine (known_any _).mono ?_; rintro e w9 ⟨rfl, g9⟩))
            go_ret
            exact ⟨rfl, gZ.tr (g8.tr (g10.tr g9))⟩
    · have HFa := Lib.hid (fun (a c : Option Addr) (cp cc : Nat) (W' : World) (hcc : t.length ≤ cc) (hr : LRow W' a l) (ht : TRow W' c t) => fall_err l t days R2 hS h2 a c cp cc W' hr ht)
      have hne : (R2 == 0) = false := by simpa using h2
      clear hok hS hR1 hR2 h2
      go_enter Try.func6, Try.ntmps6
      go_upto_region 13 with (first
          | (go_at_call 33; refine (HBx.out _ (Below.refl _ _)).mono ?_; rintro e w1 ⟨a1, c1, rfl, r1, hc1, g1⟩)
          | (go_at_call 34; refine (HSp.out _ g1).mono ?_; rintro e w2 ⟨a2, c2, rfl, r2, hc2, g2⟩)
          | (go_at_call 35; refine (HLo.out a1 c1 _ (r1.grow g2)).mono ?_; rintro e w3 ⟨x4, y4, rfl, r4, g3⟩)
          | (go_at_call 36; refine (HFa.out a1 a2 c1 c2 _ hc2 (r1.grow (g2.tr g3)) (r2.grow g3)).mono ?_; rintro e w4 ⟨rfl, g4⟩)
          | (go_at_call 37; refine (HSk.out a1 c1 _ (r1.grow (g2.tr (g3.tr g4))) (g1.tr (g2.tr (g3.tr g4)))).mono ?_; rintro e w5 ⟨rfl, g5⟩)
          | (go_at_call 38; refine (HTb.out a2 c2 _ (r2.grow (g3.tr (g4.tr g5))) (g1.tr (g2.tr (g3.tr (g4.tr g5))))).mono ?_; rintro e w6 ⟨rfl, g6⟩)
          | (go_at_call 39; refine (HSt.out _ (g1.tr (g2.tr (g3.tr (g4.tr (g5.tr g6)))))).mono ?_; rintro e w7 ⟨rfl, g7⟩))
      refine wp_abs (fun X => Gr w X ∧ SRow X x4 LL) ⟨g1.tr (g2.tr (g3.tr (g4.tr (g5.tr (g6.tr g7))))), r4.grow (g4.tr (g5.tr (g6.tr g7)))⟩ ?_
      clear r1 r2 r4 g1 g2 g3 g4 g5 g6 g7 HFa HLo HBx HSp HTb HSk HSt
      rintro X ⟨gX, r4⟩
      go_wp2
      go_loopw [15] (fun i wr => Hid (∃ k : Nat, k ≤ l.length ∧ i = .int .i64 k ∧ Gr X wr)) (fun i _ => l.length - (intOf i).toNat)
      case atStart => exact Lib.hid ⟨0, Nat.zero_le _, rfl, Below.refl _ _⟩
      case round =>
        obtain ⟨k, hk, rfl, gW⟩ := hrel.out
        clear hrel
        by_cases hlt : k < l.length
        · have hlm := spans_at hlt
          rw [HLL.out] at hlm
          have hld := HLd.out k
          obtain ⟨lo, hlo⟩ : ∃ z, sumLo (l.drop (k + 1)) = z := ⟨_, rfl⟩
          obtain ⟨hi', hhi⟩ : ∃ z, sumHi (l.drop (k + 1)) = z := ⟨_, rfl⟩
          rw [hlo, hhi] at hlm hld
          have HLk := Lib.hid hld
          clear hld
          obtain ⟨bs, os, rfl, _, c0, c1⟩ := SRow.get (r4.grow gW) hlm
          dsimp only at c0 c1
          have y0 := From.keep c0
          have y1 := From.keep c1
          clear hlm hlo hhi c0 c1
          go_upto_region 16 with fail
          refine wp_region_gr (by kernel_rfl) (by kernel_rfl) ?_
          repeat (go_big_quiet_step (first
            | (go_at_call 40; (with_reducible exact Calls.gr (HLk.out _ hlt (gX.tr (gW.tr (From.property _))))))))
          refine wpQuiet_nil ?_
          rintro _ ⟨u, rfl⟩
          clear y0 y1
          go_wp2
          go_roundw
          case rel => exact Lib.hid ⟨k + 1, by omega, by go_num, gW.tr u.property⟩
          case measure => simp [intOf]; omega
        · obtain rfl : k = l.length := by omega
          clear hlt hk
          have gZ := gX.tr gW
          go_wp2_with (first
            | (go_at_call 41; refine (HTh.out _ gZ).mono ?_; rintro e w8 ⟨rfl, g8⟩)
            | (go_at_call 16; refine (known_any _).mono ?_; rintro e w9 ⟨rfl, g9⟩))
          go_ret
          exact ⟨rfl, gZ.tr (g8.tr g9)⟩
  · rw [if_neg h1] at hS
    have hne : (R1 != 0) = true := by simpa using h1
    have HLo := Lib.hid (fun (a : Option Addr) (cp : Nat) (W' : World) (hr : LRow W' a l) => loads_err l R1 hR1 h1 a cp W' hr)
    have HFa := Lib.hid (fun (a c : Option Addr) (cp cc : Nat) (W' : World) (hcc : t.length ≤ cc) (hr : LRow W' a l) (ht : TRow W' c t) => fall_err l t days R1 hS h1 a c cp cc W' hr ht)
    clear hS hR1 hR2 h1
    go_enter Try.func6, Try.ntmps6
    go_wp2_with (first
        | (go_at_call 33; refine (HBx.out _ (Below.refl _ _)).mono ?_; rintro e w1 ⟨a1, c1, rfl, r1, hc1, g1⟩)
        | (go_at_call 34; refine (HSp.out _ g1).mono ?_; rintro e w2 ⟨a2, c2, rfl, r2, hc2, g2⟩)
        | (go_at_call 35; refine (HLo.out a1 c1 _ (r1.grow g2)).mono ?_; rintro e w3 ⟨rfl, g3⟩)
        | (go_at_call 36; refine (HFa.out a1 a2 c1 c2 _ hc2 (r1.grow (g2.tr g3)) (r2.grow g3)).mono ?_; rintro e w4 ⟨rfl, g4⟩)
        | (go_at_call 37; refine (HSk.out a1 c1 _ (r1.grow (g2.tr (g3.tr g4))) (g1.tr (g2.tr (g3.tr g4)))).mono ?_; rintro e w5 ⟨rfl, g5⟩)
        | (go_at_call 38; refine (HTb.out a2 c2 _ (r2.grow (g3.tr (g4.tr g5))) (g1.tr (g2.tr (g3.tr (g4.tr g5))))).mono ?_; rintro e w6 ⟨rfl, g6⟩)
        | (go_at_call 39; refine (HSt.out _ (g1.tr (g2.tr (g3.tr (g4.tr (g5.tr g6)))))).mono ?_; rintro e w7 ⟨rfl, g7⟩)
        | (go_at_call 16; refine (known_any _).mono ?_; rintro e w9 ⟨rfl, g9⟩))
    go_ret
    exact ⟨rfl, g1.tr (g2.tr (g3.tr (g4.tr (g5.tr (g6.tr (g7.tr g9))))))⟩

end Go.Proofs.Ytjdeojpapdphoaa

namespace Go.Proofs.Ytjdeojpapdphoaa
set_option linter.unusedVariables false
set_option linter.unusedSimpArgs false
open Go.RowKit Go.ChangeShapes

section
variable {H : Type} {enc : TypeId × Value → H} {P : Program} {W W' : World}

theorem trodAll_stays (hl : laidOutB P = true) (g : Gr W W') {sp : Nat → Bool} : ∀ (ts : List TypeId) (vs : List Value) (ds : List (DataW H)) (ps : List MemPlace), (∀ t ∈ ts, P.readableRec t = true ∧ t < P.types.size) →
    DataW.TrodAll enc P W 0 (fun _ => true) true ts vs ds ps → (∀ p ∈ ps, p.block < W.heap.size) → (∀ p ∈ ps, sp p.block = true) → DataW.TrodAll enc P W' 0 sp true ts vs ds ps
  | [], [], [], _, _, h, _, _ => h
  | t :: ts, v :: vs, d :: ds, ps, ht, h, hlt, hsp => by
    obtain ⟨p, q, h1, h2, rfl⟩ := h
    exact ⟨p, q, WideElems.Trod_stays hl (ht t (by simp)).1 (ht t (by simp)).2 h1 (fun x hx => g.same (hlt x (by simp [hx]))) (fun x hx => hsp x (by simp [hx])),
      trodAll_stays hl g ts vs ds q (fun u hu => ht u (by simp [hu])) h2 (fun x hx => hlt x (by simp [hx])) (fun x hx => hsp x (by simp [hx])), rfl⟩

/-- A law that returned true in a world that only grew, its arguments as they were. -/
theorem law_true {f : Func} {s : ChangeSpec} {bt : TypeId} {args : Array Value} {ds : List (DataW H)} {p : List MemPlace}
    (hl : laidOutB P = true) (hpt : ∀ t ∈ f.params.toList, P.readableRec t = true ∧ t < P.types.size) (hbt : P.underlying bt = some .bool) (hrt : f.resultTypes = #[bt]) (hsv : s.vars = [])
    (hs : s.fn H ds = { results := [.lit (.bool true)], args := ds })
    (hW : DataW.Whole enc P f.params.toList s.vars false W args.toList ds [] p) (g : Gr W W') :
    s.post enc P f false true false false W args (.bool true) W' := by
  have hW0 := hW
  obtain ⟨pa, pv, hA, hV, hp, hfz, hnd⟩ := hW0
  rw [hsv] at hV
  have hpv : pv = [] := hV
  subst hpv
  rw [List.append_nil] at hp
  subst hp
  have hold : ∀ x ∈ p, x.block < W.heap.size := fun x hx => hW.lt x hx
  have hargs : ∀ sp : Nat → Bool, (∀ x ∈ p, sp x.block = true) → DataW.TrodAll enc P W' 0 sp true f.params.toList args.toList ds p := fun sp hsp => trodAll_stays hl g _ _ _ _ hpt hA hold hsp
  have hres : ∀ (b : Nat) (sp : Nat → Bool) (hd : Bool), DataW.TrodAll enc P W' b sp hd f.resultTypes.toList ((Value.bool true).resultList f.resultTypes.size) [.lit (.bool true)] [] := fun b sp hd => by
    rw [hrt]
    exact trodAll_cons_mk (shut_bool hbt _) trodAll_mk0
  have hok : ∀ (j : Nat) (t : TypeId) (r : Value), f.resultTypes[j]? = some t → ((Value.bool true).resultList f.resultTypes.size)[j]? = some r → Value.okWide P W' .any 0 t r := ok_one hrt rfl (okWide_bool_mk hbt _)
  have es : s.fn H (ds ++ []) = { results := [.lit (.bool true)], args := ds } := by rw [List.append_nil]; exact hs
  have hsp0 : ∀ x ∈ p, (fun b => decide (b < W.heap.size)) x.block = true := fun x hx => by simpa using hold x hx
  refine ⟨ds, [], p, [], p, [], hW, ?_, ?_, ?_, World.keptBut_mono (fun x hx => hx.elim) (g.frame (fun _ => False)), fun _ => ?_⟩
  · rw [es]; exact hres _ _ _
  · rw [es]; exact hargs _ hsp0
  · rw [es, hsv]; rfl
  · refine ⟨hok, [.lit (.bool true)] ++ ds, [], ([] ++ p) ++ [], ⟨[] ++ p, [], trodAll_append (hargs (fun _ => true) (fun _ _ => rfl)) (hres _ _ _), ?_, rfl, ?_, ?_⟩, ?_⟩
    · rw [hsv]; rfl
    · intro b off hx
      have hx' : MemPlace.cell b off ∈ p := by simpa using hx
      have hb : b < W.heap.size := hold _ hx'
      rw [g.frozen (p := ⟨b, off, none⟩) hb]
      exact hfz b off hx'
    · intro ha
      cases ha
    · intro x hx _
      simpa using hx

/-- Made of integers of kind k alone, cell by cell: by looking. -/
def allK (P : Program) (k : IntKind) : Nat → TypeId → Bool
  | 0, _ => false
  | f + 1, t => match P.underlying t with
    | some (.int k') => decide (k' = k) && decide (P.cellsOf t = 1)
    | some (.struct fs) => fs.toList.all (fun x => allK P k f x.type) && (List.range (P.cellsOf t)).all fun i => fs.toList.any fun x => decide (x.offset ≤ i) && decide (i < x.offset + P.cellsOf x.type)
    | some (.array n e) => allK P k f e && (List.range (P.cellsOf t)).all fun i => (List.range n).any fun j => decide (j * P.cellsOf e ≤ i) && decide (i < j * P.cellsOf e + P.cellsOf e)
    | _ => false

theorem piece {cs : List Value} {o n i : Nat} (h1 : o ≤ i) (h2 : i < o + n) : ((cs.drop o).take n)[i - o]? = cs[i]? := by
  rw [List.getElem?_take_of_lt (by omega), List.getElem?_drop, show o + (i - o) = i by omega]

theorem mapM_at {α β : Type} {f : α → Option β} : ∀ (l : List α) (ys : List β), l.mapM f = some ys → ∀ a ∈ l, ∃ y, f a = some y
  | [], _, _, a, ha => by cases ha
  | b :: l, ys, h, a, ha => by
    rw [List.mapM_cons] at h
    cases h1 : f b with
    | none => simp [h1] at h
    | some y =>
      cases h2 : l.mapM f with
      | none => simp [h1, h2] at h
      | some zs =>
        rcases List.mem_cons.1 ha with rfl | ha
        · exact ⟨y, h1⟩
        · exact mapM_at l zs h2 a ha

theorem int_open {k : IntKind} {base : Nat} {sp : Nat → Bool} {held : Bool} {t : TypeId} (hu : P.underlying t = some (.int k)) {fuel : Nat} {cs : List Value} {x : DataW H × List MemPlace} (hx : DataW.trod enc P W base sp held fuel t cs = some x) :
    ∃ n, cs = [.int k n] ∧ (Lit.int k n).wf = true := by
  obtain ⟨n, e, _, hw⟩ := DataW.trod_int hu hx
  exact ⟨n, e, hw⟩

theorem allK_open {k : IntKind} {base : Nat} {sp : Nat → Bool} {held : Bool} : ∀ (f : Nat) (t : TypeId), allK P k f t = true → ∀ (fuel : Nat) (cs : List Value) (x : DataW H × List MemPlace), DataW.trod enc P W base sp held fuel t cs = some x →
    cs.length = P.cellsOf t ∧ ∀ i, i < cs.length → ∃ n, cs[i]? = some (.int k n) ∧ (Lit.int k n).wf = true
  | 0, _, h, _, _, _, _ => by simp [allK] at h
  | f + 1, t, h, 0, cs, x, hx => by simp [DataW.trod] at hx
  | f + 1, t, h, fuel + 1, cs, x, hx => by
    unfold allK at h
    split at h
    · rename_i k' hu
      simp only [Bool.and_eq_true, decide_eq_true_eq] at h
      obtain ⟨rfl, hc⟩ := h
      obtain ⟨n, rfl, hw⟩ := int_open hu hx
      refine ⟨by rw [hc]; rfl, fun i hi => ?_⟩
      obtain rfl : i = 0 := by simpa using hi
      exact ⟨n, rfl, hw⟩
    · rename_i fs hu
      simp only [Bool.and_eq_true] at h
      obtain ⟨ha, hcov⟩ := h
      unfold DataW.trod at hx
      rw [hu] at hx
      simp only at hx
      split at hx
      case isFalse => cases hx
      rename_i hl
      refine ⟨hl, fun i hi => ?_⟩
      obtain ⟨xs, hxs, _⟩ := Option.map_eq_some_iff.1 hx
      have hci := List.all_eq_true.1 hcov i (by simp; omega)
      obtain ⟨fd, hfd, hin⟩ := List.any_eq_true.1 hci
      simp only [Bool.and_eq_true, decide_eq_true_eq] at hin
      obtain ⟨y, hy⟩ := mapM_at _ _ hxs fd hfd
      obtain ⟨hl', hat⟩ := allK_open f fd.type (List.all_eq_true.1 ha fd hfd) fuel _ y hy
      obtain ⟨n, hn, hw⟩ := hat (i - fd.offset) (by rw [hl']; omega)
      rw [piece hin.1 hin.2] at hn
      exact ⟨n, hn, hw⟩
    · rename_i m e hu
      simp only [Bool.and_eq_true] at h
      obtain ⟨ha, hcov⟩ := h
      unfold DataW.trod at hx
      rw [hu] at hx
      simp only at hx
      split at hx
      case isFalse => cases hx
      rename_i hl
      refine ⟨hl, fun i hi => ?_⟩
      obtain ⟨xs, hxs, _⟩ := Option.map_eq_some_iff.1 hx
      have hci := List.all_eq_true.1 hcov i (by simp; omega)
      obtain ⟨j, hj, hin⟩ := List.any_eq_true.1 hci
      simp only [Bool.and_eq_true, decide_eq_true_eq] at hin
      obtain ⟨y, hy⟩ := mapM_at _ _ hxs j hj
      obtain ⟨hl', hat⟩ := allK_open f e ha fuel _ y hy
      obtain ⟨n, hn, hw⟩ := hat (i - j * P.cellsOf e) (by rw [hl']; omega)
      rw [piece hin.1 hin.2] at hn
      exact ⟨n, hn, hw⟩
    · cases h

theorem ints_of {k : IntKind} : ∀ (cs : List Value), (∀ i, i < cs.length → ∃ n, cs[i]? = some (.int k n) ∧ (Lit.int k n).wf = true) → ∃ l : List Int, cs = l.map (Value.int k) ∧ ∀ n ∈ l, (Lit.int k n).wf = true
  | [], _ => ⟨[], rfl, by simp⟩
  | c :: cs, h => by
    obtain ⟨n, hn, hw⟩ := h 0 (by simp)
    obtain ⟨l, rfl, hl⟩ := ints_of cs (fun i hi => by simpa using h (i + 1) (by simpa using hi))
    simp only [List.getElem?_cons_zero, Option.some.injEq] at hn
    subst hn
    refine ⟨n :: l, rfl, fun m hm => ?_⟩
    rcases List.mem_cons.1 hm with rfl | hm
    · exact hw
    · exact hl m hm

/-- A struct or array by value, of integers of one kind: its integers. -/
theorem agg_ints {k : IntKind} {base : Nat} {sp : Nat → Bool} {held : Bool} {f : Nat} {t : TypeId} (ha : allK P k f t = true) (hc : P.cellsOf t ≠ 1) {v : Value} {d : DataW H} {ps : List MemPlace} (h : DataW.Trod enc P W base sp held t v d ps) :
    ∃ l : List Int, v = .agg (l.map (Value.int k)).toArray ∧ l.length = P.cellsOf t ∧ ∀ n ∈ l, (Lit.int k n).wf = true := by
  obtain ⟨fuel, hf⟩ := h
  obtain ⟨hl, hat⟩ := allK_open f t ha fuel _ _ hf
  obtain ⟨l, hcs, hw⟩ := ints_of _ hat
  have hlen : l.length = P.cellsOf t := by rw [← hl, hcs]; simp
  refine ⟨l, ?_, hlen, hw⟩
  unfold Value.cells at hcs hl
  split at hcs
  · rename_i cs
    rw [← hcs]
  · rename_i hna
    exfalso
    apply hc
    rw [← hlen]
    have := congrArg List.length hcs
    simpa using this.symm

/-- A slice of bytes that came in. -/
theorem row_bytes {e : TypeId} {t : TypeId} {r : Reach} {b0 : Nat} (ht : P.underlying t = some (.slice e)) (he : P.underlying e = some (.int .u8)) (hc : P.cellsOf e = 1) {v : Value} {d : DataW H} {ps : List MemPlace} (hval : Value.okWide P W r b0 t v)
    (h : DataW.Trod enc P W 0 (fun _ => true) true t v d ps) :
    ∃ (a : Option Addr) (l : List Int) (cap : Nat), v = .slice a l.length cap ∧ URow W a l ∧ Bytes l := by
  obtain ⟨fuel, hf⟩ := h
  obtain ⟨a0, len0, cap0, rfl⟩ := Go.WideShapes.okWide_slice ht hval
  rcases open_ints ht he hc hf with ⟨hcs, _⟩ | ⟨a, len, cap, zs, hcs, _, hle, hmax, hlen, _, hcell, hwf⟩
  · have hcs' : [Value.slice a0 len0 cap0] = [.slice none 0 0] := by simpa [Value.cells] using hcs
    cases hcs'
    exact ⟨none, [], 0, rfl, RowOf.nil, fun x hx => by cases hx⟩
  · have hcs' : [Value.slice a0 len0 cap0] = [.slice (some a) len cap] := by simpa [Value.cells] using hcs
    cases hcs'
    simp only [if_true] at hlen
    have hl : (zs.take len0).length = len0 := by simp; omega
    refine ⟨some a, zs.take len0, cap0, by rw [hl], ⟨by rw [hl]; exact Nat.le_trans hle hmax, fun j x hx => ?_⟩, fun x hx => bounds_u8 (hwf x (List.mem_of_mem_take hx))⟩
    have hj : j < len0 := by
      have := (List.getElem?_eq_some_iff.1 hx).1
      omega
    have hz : zs[j]? = some x := by
      rw [List.getElem?_take_of_lt hj] at hx
      exact hx
    have h0 := hcell 0 (by omega)
    rw [show a.add 0 = a by simp [Addr.add]] at h0
    have hb := World.block_lt_of_cell? W _ h0
    have hs : a.spot = none := by
      cases hsp : a.spot with
      | none => rfl
      | some q =>
        exfalso
        unfold World.cell? at h0
        split at h0
        · simp [hsp] at h0
        · cases h0
    obtain ⟨b, off, sp⟩ := a
    simp only at hs
    subst hs
    have h1 := hcell j (by omega)
    have e1 : zs.getD j 0 = x := by simp [hz]
    rw [e1, show (Addr.mk b off none).add j = ⟨b, off + j, none⟩ by unfold Addr.add; split <;> simp_all] at h1
    refine ⟨b, off, rfl, hb, fun i v hv => ?_⟩
    have hi : i = 0 := by
      have := (List.getElem?_eq_some_iff.1 hv).1
      simpa [encU] using this
    subst hi
    simp [encU] at hv
    subst hv
    simpa using h1

end

end Go.Proofs.Ytjdeojpapdphoaa

namespace Go.Proofs.Ytjdeojpapdphoaa
set_option linter.unusedVariables false
set_option linter.unusedSimpArgs false
open Go.RowKit

/-- A board is handed back. -/
def MadePost (mp mf : List Int) (w : World) (e : Ending) (w' : World) : Prop := ∃ a ac g gc, e = .returned (.agg #[.slice a mp.length ac, .slice g mf.length gc]) ∧ Gr w w' ∧ IRow w' a mp ∧ IRow w' g mf ∧ NewAt w.heap.size a ∧ NewAt w.heap.size g

/-- A blank is handed back. -/
def BlankPost (tab hei slo : Int) (pan top bot : List Int) (opn : Bool) (w : World) (e : Ending) (w' : World) : Prop :=
  ∃ pa pc ta tc ba bc, e = .returned (.agg #[.int .i64 tab, .slice pa pan.length pc, .int .i64 hei, .slice ta top.length tc, .slice ba bot.length bc, .int .i64 slo, .bool opn]) ∧ Gr w w' ∧ IRow w' pa pan ∧ IRow w' ta top ∧ IRow w' ba bot ∧ NewAt w.heap.size pa ∧ NewAt w.heap.size ta ∧ NewAt w.heap.size ba

end Go.Proofs.Ytjdeojpapdphoaa

namespace Go.Proofs.Ytjdeojpapdphoaa
set_option linter.unusedVariables false
set_option linter.unusedSimpArgs false
open Go.RowKit

/-- A store is handed back. -/
def StorePost (ps : List Paper) (fs : List Flute) (w : World) (e : Ending) (w' : World) : Prop := ∃ a ac g gc, e = .returned (.agg #[.slice a ps.length ac, .slice g fs.length gc]) ∧ Gr w w' ∧ PRow w' a ps ∧ FRow w' g fs ∧ NewAt w.heap.size a ∧ NewAt w.heap.size g

theorem ne_of_at {x y g H : Nat} (h : some x = some g ∨ g = H) (hx : x ≠ y) (hH : H ≠ y) : g ≠ y := by
  rcases h with h | h
  · injection h with h
    omega
  · omega

theorem oneP (x : Paper) : ∀ u ∈ encP x, u.oneCell' = true := by
  intro u hu
  simp only [encP, List.mem_cons, List.not_mem_nil, or_false] at hu
  rcases hu with rfl | rfl | rfl | rfl | rfl | rfl | rfl | rfl <;> rfl

theorem oneF (x : Flute) : ∀ u ∈ encF x, u.oneCell' = true := by
  intro u hu
  simp only [encF, List.mem_cons, List.not_mem_nil, or_false] at hu
  rcases hu with rfl | rfl | rfl | rfl <;> rfl

theorem Own.grownRow {w w' : World} {b : Nat} {vs : List Value} {row : Option Nat} (h : Own w b vs) (g : w.grownBy w' row) (hne : ∀ r, row = some r → b ≠ r) : Own w' b vs := by
  have hb := g.block b h.1.1 (fun e => hne b e.symm rfl)
  exact ⟨⟨Nat.lt_of_lt_of_le h.1.1 g.size, fun i v hv => (World.cell?_of_block (w := w) (a := ⟨b, i, none⟩) hb).trans (h.1.2 i v hv)⟩, fun i => (World.frozen?_of_block (w := w) (a := ⟨b, i, none⟩) hb).trans (h.2 i)⟩

end Go.Proofs.Ytjdeojpapdphoaa

namespace Go.Proofs.Ytjdeojpapdphoaa
set_option linter.unusedVariables false
set_option linter.unusedSimpArgs false
open Go.RowKit

def HeldP (b : Nat) (y0 y1 y2 y3 : Int) (c : Nat) (pv : Value) (w' : World) : Prop := w'.cell? ⟨b, 0, none⟩ = some (.int .u8 y0) ∧ w'.cell? ⟨b, 1, none⟩ = some (.int .u8 y1) ∧ w'.cell? ⟨b, 2, none⟩ = some (.int .u8 y2) ∧ w'.cell? ⟨b, 3, none⟩ = some (.int .u8 y3) ∧ w'.cell? ⟨c, 0, none⟩ = some pv

def HeldF (b : Nat) (y2 : Int) (c : Nat) (pv : Value) (w' : World) : Prop := w'.cell? ⟨b, 2, none⟩ = some (.int .u8 y2) ∧ w'.cell? ⟨c, 1, none⟩ = some pv

def fpaper (v0 v1 v2 v3 : Int) (k : Int) : Paper := ⟨1 + k % 2, 80 + v0, 100 + v1, 100 + v1 + v2 % 60, v3 % 90, v3 % 90 + v2 % 20, 2000 * v0, 5 * v1⟩

def fflute (v0 v1 v2 : Int) : Flute := ⟨2000 + 20 * v0, 2000 + 20 * v0 + (2000 + 20 * v0) * v2 / 400, 1000 + 8 * v1, 1000 + 8 * v1 + v2 % 200⟩

def storeP (x0 x1 x2 x3 x4 x5 x6 x7 x8 x9 x10 x11 : Int) : List Paper := [fpaper x0 x1 x2 x3 0, fpaper x4 x5 x6 x7 1, fpaper x8 x9 x10 x11 2]

def storeF (x12 x13 x14 x15 x16 x17 : Int) : List Flute := [fflute x12 x13 x14, fflute x15 x16 x17]

def Byt (n : Int) : Prop := 0 ≤ n ∧ n ≤ 255

theorem owns_other {w : World} {base : Nat} {e : TypeId} {sz : Nat} {v : Value} {n : Nat} {xs : List Value} {c i : Nat} {u : Value} (h : w.ownsRow base e sz v n xs) (hc : c < base) : (w.setCell ⟨c, i, none⟩ u).ownsRow base e sz v n xs := by
  obtain ⟨h1, h2⟩ := h
  refine ⟨h1, ?_⟩
  rcases h2 with h2 | ⟨b, cap, cur, hv, hb, hh, r⟩
  · exact .inl h2
  · exact .inr ⟨b, cap, cur, hv, hb, (Below.heap_setCell _ _ _ _ (show b ≠ c by omega)).trans hh, r⟩

theorem Box.c3 {w : World} {b : Nat} {x0 x1 x2 : Value} (h : Box w b [x0, x1, x2]) : w.cell? ⟨b, 0, none⟩ = some x0 ∧ w.cell? ⟨b, 1, none⟩ = some x1 ∧ w.cell? ⟨b, 2, none⟩ = some x2 := ⟨h.2 0 x0 rfl, h.2 1 x1 rfl, h.2 2 x2 rfl⟩

theorem Box.other {w : World} {b c i : Nat} {vs : List Value} {v : Value} (h : Box w c vs) (hne : c ≠ b) : Box (w.setCell ⟨b, i, none⟩ v) c vs :=
  ⟨by simpa using h.1, fun j u hu => by rw [cell_set_ne v (.inl hne)]; exact h.2 j u hu⟩

end Go.Proofs.Ytjdeojpapdphoaa

namespace Go.Proofs.Ytjdeojpapdphoaa
set_option linter.unusedVariables false
set_option linter.unusedSimpArgs false
open Go.RowKit

structure V6 where
  a : Int
  b : Int
  c : Int
  d : Int
  e : Int
  f : Int

structure V3 where
  a : Int
  b : Int
  c : Int

def encV6 (v : V6) : List Value := [.int .u8 v.a, .int .u8 v.b, .int .u8 v.c, .int .u8 v.d, .int .u8 v.e, .int .u8 v.f]

def encV3 (v : V3) : List Value := [.int .u8 v.a, .int .u8 v.b, .int .u8 v.c]

abbrev Row6 := RowOf 6 encV6

abbrev Row3 := RowOf 3 encV3

def isB (n : Int) : Prop := 0 ≤ n ∧ n ≤ 255

def B6 (v : V6) : Prop := isB v.a ∧ isB v.b ∧ isB v.c ∧ isB v.d ∧ isB v.e ∧ isB v.f

def B3 (v : V3) : Prop := isB v.a ∧ isB v.b ∧ isB v.c

def npW (n : Nat) : Nat := if n ≤ 2 then 2 else if n ≤ 5 then n else 5

def nfW (n : Nat) : Nat := if n = 0 then 1 else if n ≤ 3 then n else 3

def wareP (P : List V6) (i : Nat) : V6 := match P[i]? with | some v => v | none => ⟨i, 120, 20, 7, 30, 20⟩

def wareF (F : List V3) (i : Nat) : V3 := match F[i]? with | some v => v | none => ⟨80, 128, 36⟩

def paperW (k : Nat) (v : V6) : Paper := ⟨if 1 < k then 1 + v.a % 2 else 1 + k, 50 + v.b, 50 + v.c, 50 + v.c + v.a / 8, v.d % 100, v.d % 100 + v.d / 16, 1000 * v.e, 10 * v.f⟩

def fluteW (v : V3) : Flute := ⟨1000 + 35 * v.a, 1000 + 35 * v.a + (1000 + 35 * v.a) * v.b / 255, 500 + 10 * v.c, 500 + 10 * v.c + v.b % 90⟩

def storeWP (P : List V6) : List Paper := (List.range (npW P.length)).map fun i => paperW i (wareP P i)

def storeWF (F : List V3) : List Flute := (List.range (nfW F.length)).map fun i => fluteW (wareF F i)

theorem storeWP_len (P : List V6) : (storeWP P).length = npW P.length := by simp [storeWP]

theorem storeWF_len (F : List V3) : (storeWF F).length = nfW F.length := by simp [storeWF]

theorem npW_bd (n : Nat) : 2 ≤ npW n ∧ npW n ≤ 5 := by unfold npW; split <;> (try split) <;> omega

theorem nfW_bd (n : Nat) : 1 ≤ nfW n ∧ nfW n ≤ 3 := by unfold nfW; split <;> (try split) <;> omega

theorem storeWP_at {P : List V6} {k : Nat} (h : k < npW P.length) : (storeWP P)[k]? = some (paperW k (wareP P k)) := by
  unfold storeWP
  rw [List.getElem?_map, List.getElem?_range h]
  rfl

theorem storeWF_at {F : List V3} {k : Nat} (h : k < nfW F.length) : (storeWF F)[k]? = some (fluteW (wareF F k)) := by
  unfold storeWF
  rw [List.getElem?_map, List.getElem?_range h]
  rfl

theorem wareP_B {P : List V6} (hP : ∀ v ∈ P, B6 v) {k : Nat} (hk : k < 5) : B6 (wareP P k) := by
  unfold wareP
  cases h : P[k]? with
  | some v => exact hP v (List.mem_of_getElem? h)
  | none => simp only [B6, isB]; omega

theorem wareF_B {F : List V3} (hF : ∀ v ∈ F, B3 v) (k : Nat) : B3 (wareF F k) := by
  unfold wareF
  cases h : F[k]? with
  | some v => exact hF v (List.mem_of_getElem? h)
  | none => simp only [B3, isB]; omega

theorem u8_small {k : Nat} (h : k < 5) : IntKind.u8.wrap (k : Int) = k := by
  have h5 : k = 0 ∨ k = 1 ∨ k = 2 ∨ k = 3 ∨ k = 4 := by omega
  rcases h5 with rfl | rfl | rfl | rfl | rfl <;> rfl

theorem owns_val {w : World} {base : Nat} {e : TypeId} {sz : Nat} {v : Value} {n : Nat} {xs : List Value} (h : w.ownsRow base e sz v n xs) : ∃ a cap, v = .slice a n cap := by
  obtain ⟨h1, h2⟩ := h
  rcases h2 with ⟨hv, hn⟩ | ⟨b, cap, cur, hv, _⟩
  · exact ⟨none, 0, by rw [hv, hn]⟩
  · exact ⟨some ⟨b, 0, none⟩, cap, hv⟩

theorem Own.news {v : World} {b : Nat} {vs : List Value} (h : Own v b vs) : ∀ (j : Nat) (u : Value), vs[j]? = some u → v.cell? ((⟨b, 0, none⟩ : Addr).add j) = some u := by
  intro j u hu
  have hc := h.1.2 j u hu
  unfold Addr.add
  split
  · rename_i h0
    subst h0
    exact hc
  · simpa using hc

end Go.Proofs.Ytjdeojpapdphoaa

namespace Go.Proofs.Ytjdeojpapdphoaa
set_option linter.unusedVariables false
set_option linter.unusedSimpArgs false
open Go.RowKit Go.ChangeShapes

theorem list_of {α : Type} (p : Nat → α → Prop) : ∀ n, (∀ j, j < n → ∃ x, p j x) → ∃ l : List α, l.length = n ∧ ∀ j x, l[j]? = some x → p j x
  | 0, _ => ⟨[], rfl, fun j x h => by simp at h⟩
  | n + 1, h => by
    obtain ⟨l, hl, hp⟩ := list_of p n (fun j hj => h j (by omega))
    obtain ⟨x, hx⟩ := h n (by omega)
    refine ⟨l ++ [x], by simp [hl], fun j y hy => ?_⟩
    by_cases hj : j < l.length
    · rw [List.getElem?_append_left hj] at hy
      exact hp j y hy
    · rw [List.getElem?_append_right (by omega)] at hy
      have h1 := (List.getElem?_eq_some_iff.1 hy).1
      simp at h1
      obtain rfl : j = n := by omega
      simp [hl] at hy
      subst hy
      exact hx

section
variable {H : Type} {enc : TypeId × Value → H} {P : Program} {W : World}

/-- A slice of arrays of integers of one kind. -/
theorem row_flat {α : Type} {en : α → List Value} {G : α → Prop} {e t : TypeId} {k : IntKind} {f sz fuel : Nat} {cs : List Value} {x : DataW H × List MemPlace} (ht : P.underlying t = some (.slice e)) (ha : allK P k f e = true) (hc : P.cellsOf e = sz) (h0 : 0 < sz)
    (hmk : ∀ l : List Int, l.length = sz → (∀ n ∈ l, (Lit.int k n).wf = true) → ∃ y : α, en y = l.map (Value.int k) ∧ G y)
    (hx : DataW.trod enc P W 0 (fun _ => true) true fuel t cs = some x) :
    ∃ (a : Option Addr) (l : List α) (cap : Nat), cs = [.slice a l.length cap] ∧ RowOf sz en W a l ∧ ∀ v ∈ l, G v := by
  rcases DataW.trod_slice ht hx with ⟨h, _⟩ | ⟨a, len, cap, elems, rest, n, _, rfl, _, hb, hl, hm, hlen, hel, _, _⟩
  · exact ⟨none, [], 0, h, RowOf.nil, fun v hv => by cases hv⟩
  have hj : ∀ j, j < len → ∃ y : α, G y ∧ ∃ l : List Int, l.length = sz ∧ en y = l.map (Value.int k) ∧ ∀ i, i < sz → W.cell? ((a.add (j * sz)).add i) = (l.map (Value.int k))[i]? := by
    intro j hj
    have h1 := hel j hj
    rw [List.getElem?_eq_getElem (by omega)] at h1
    obtain ⟨cs', hcs, hy⟩ := Option.bind_eq_some_iff.1 h1
    obtain ⟨hl', hat⟩ := allK_open f e ha _ _ _ hy
    obtain ⟨l, hcl, hw⟩ := ints_of _ hat
    have hll : l.length = sz := by rw [← hc, ← hl', hcl]; simp
    obtain ⟨y, hy1, hy2⟩ := hmk l hll hw
    refine ⟨y, hy2, l, hll, hy1, fun i hi => ?_⟩
    have := (World.cells?_some hcs).2.2 i (by omega)
    rw [hc, hcl] at this
    exact this
  obtain ⟨l, hlen', hp⟩ := list_of _ len hj
  refine ⟨some a, l, cap, by rw [hlen'], ⟨?_, fun j y hy => ?_⟩, fun v hv => ?_⟩
  · rw [hlen']
    have : maxLen ≤ 9223372036854775807 := by decide
    omega
  · obtain ⟨_, li, hli, hen, hcell⟩ := hp j y hy
    have z0 := hcell 0 h0
    have hi0 : (li.map (Value.int k))[0]? = some (.int k (li[0]'(by omega))) := by simp [List.getElem?_eq_getElem (show 0 < li.length by omega)]
    rw [hi0, show (a.add (j * sz)).add 0 = a.add (j * sz) by simp [Addr.add]] at z0
    have hs : a.spot = none := by
      cases hsp : a.spot with
      | none => rfl
      | some q =>
        exfalso
        have hj0 : j < len := by have := (List.getElem?_eq_some_iff.1 hy).1; omega
        obtain ⟨_, _, li0, hli0, _, hc0⟩ := hj 0 (by omega)
        have z1 := hc0 0 h0
        have hi1 : (li0.map (Value.int k))[0]? = some (.int k (li0[0]'(by omega))) := by simp [List.getElem?_eq_getElem (show 0 < li0.length by omega)]
        rw [hi1, show (a.add (0 * sz)).add 0 = a by simp [Addr.add]] at z1
        unfold World.cell? at z1
        split at z1
        · simp [hsp] at z1
        · cases z1
    obtain ⟨b, off, sp⟩ := a
    simp only at hs
    subst hs
    refine ⟨b, off, rfl, ?_, fun i v hv => ?_⟩
    · have := World.block_lt_of_cell? W _ z0
      rw [WideShapes.add_plain] at this
      exact this
    · have hi : i < sz := by
        have := (List.getElem?_eq_some_iff.1 hv).1
        rw [hen] at this
        simpa [hli] using this
      have := hcell i hi
      rw [WideShapes.add_plain, WideShapes.add_plain, ← hen, hv] at this
      exact this
  · obtain ⟨j, hjv⟩ := List.getElem?_of_mem hv
    exact (hp j v hjv).1

/-- A struct of three slices: each by itself. -/
theorem struct3 {t t0 t1 t2 : TypeId} {fs : Array Field} {fuel : Nat} {cs : List Value} {x : DataW H × List MemPlace} (hu : P.underlying t = some (.struct fs)) (ct : P.cellsOf t = 3) (c0 : P.cellsOf t0 = 1) (c1 : P.cellsOf t1 = 1) (c2 : P.cellsOf t2 = 1)
    (m0 : ∃ g ∈ fs.toList, g.type = t0 ∧ g.offset = 0) (m1 : ∃ g ∈ fs.toList, g.type = t1 ∧ g.offset = 1) (m2 : ∃ g ∈ fs.toList, g.type = t2 ∧ g.offset = 2)
    (hx : DataW.trod enc P W 0 (fun _ => true) true fuel t cs = some x) :
    ∃ s0 s1 s2 n x0 x1 x2, cs = [s0, s1, s2] ∧ DataW.trod enc P W 0 (fun _ => true) true n t0 [s0] = some x0 ∧ DataW.trod enc P W 0 (fun _ => true) true n t1 [s1] = some x1 ∧ DataW.trod enc P W 0 (fun _ => true) true n t2 [s2] = some x2 := by
  cases fuel with
  | zero => simp [DataW.trod] at hx
  | succ n =>
    unfold DataW.trod at hx
    rw [hu] at hx
    simp only at hx
    split at hx
    case isFalse => cases hx
    rename_i hl
    obtain ⟨xs, hxs, _⟩ := Option.map_eq_some_iff.1 hx
    rw [ct] at hl
    obtain ⟨s0, s1, s2, rfl⟩ : ∃ s0 s1 s2, cs = [s0, s1, s2] := by
      match cs, hl with
      | [s0, s1, s2], _ => exact ⟨s0, s1, s2, rfl⟩
    obtain ⟨g0, hg0, e0, o0⟩ := m0
    obtain ⟨g1, hg1, e1, o1⟩ := m1
    obtain ⟨g2, hg2, e2, o2⟩ := m2
    obtain ⟨y0, hy0⟩ := mapM_at _ _ hxs g0 hg0
    obtain ⟨y1, hy1⟩ := mapM_at _ _ hxs g1 hg1
    obtain ⟨y2, hy2⟩ := mapM_at _ _ hxs g2 hg2
    rw [e0, o0, c0] at hy0
    rw [e1, o1, c1] at hy1
    rw [e2, o2, c2] at hy2
    exact ⟨s0, s1, s2, n, y0, y1, y2, rfl, hy0, hy1, hy2⟩

end

theorem mk6 (l : List Int) (hl : l.length = 6) (hw : ∀ n ∈ l, (Lit.int .u8 n).wf = true) : ∃ y : V6, encV6 y = l.map (Value.int .u8) ∧ B6 y := by
  match l, hl with
  | [a, b, c, d, e, f], _ => exact ⟨⟨a, b, c, d, e, f⟩, rfl, bounds_u8 (hw a (by simp)), bounds_u8 (hw b (by simp)), bounds_u8 (hw c (by simp)), bounds_u8 (hw d (by simp)), bounds_u8 (hw e (by simp)), bounds_u8 (hw f (by simp))⟩

theorem mk3 (l : List Int) (hl : l.length = 3) (hw : ∀ n ∈ l, (Lit.int .u8 n).wf = true) : ∃ y : V3, encV3 y = l.map (Value.int .u8) ∧ B3 y := by
  match l, hl with
  | [a, b, c], _ => exact ⟨⟨a, b, c⟩, rfl, bounds_u8 (hw a (by simp)), bounds_u8 (hw b (by simp)), bounds_u8 (hw c (by simp))⟩

theorem mk1 (l : List Int) (hl : l.length = 1) (hw : ∀ n ∈ l, (Lit.int .u8 n).wf = true) : ∃ y : Int, encU y = l.map (Value.int .u8) ∧ (0 ≤ y ∧ y ≤ 255) := by
  match l, hl with
  | [a], _ => exact ⟨a, rfl, bounds_u8 (hw a (by simp))⟩

end Go.Proofs.Ytjdeojpapdphoaa

namespace Go.Proofs.Ytjdeojpapdphoaa
set_option linter.unusedVariables false
set_option linter.unusedSimpArgs false
open Go.RowKit Go.ChangeShapes

/-- The pieces of a struct. -/
theorem struct_piece {H : Type} {enc : TypeId × Value → H} {P : Program} {W : World} {t : TypeId} {fs : Array Field} {fuel : Nat} {cs : List Value} {x : DataW H × List MemPlace} (hu : P.underlying t = some (.struct fs))
    (hx : DataW.trod enc P W 0 (fun _ => true) true fuel t cs = some x) :
    cs.length = P.cellsOf t ∧ ∃ n, ∀ g ∈ fs.toList, ∃ y, DataW.trod enc P W 0 (fun _ => true) true n g.type ((cs.drop g.offset).take (P.cellsOf g.type)) = some y := by
  cases fuel with
  | zero => simp [DataW.trod] at hx
  | succ n =>
    unfold DataW.trod at hx
    rw [hu] at hx
    simp only at hx
    split at hx
    case isFalse => cases hx
    rename_i hl
    obtain ⟨xs, hxs, _⟩ := Option.map_eq_some_iff.1 hx
    exact ⟨hl, n, fun g hg => mapM_at _ _ hxs g hg⟩

theorem mk2 (l : List Int) (hl : l.length = 2) (hw : ∀ n ∈ l, (Lit.int .u8 n).wf = true) : ∃ y : V2, encV2 y = l.map (Value.int .u8) ∧ B2 y := by
  match l, hl with
  | [a, b], _ => exact ⟨⟨a, b⟩, rfl, bounds_u8 (hw a (by simp)), bounds_u8 (hw b (by simp))⟩

set_option maxRecDepth 100000 in
theorem lot_open {H : Type} {enc : TypeId × Value → H} {W : World} {fuel : Nat} {cs : List Value} {x : DataW H × List MemPlace} (hx : DataW.trod enc Try.prog W 0 (fun _ => true) true fuel 83 cs = some x) :
    ∃ (r0 r1 r2 r3 of : Int) (T : List V2) (ta : Option Addr) (tc : Nat), cs = [.int .u8 r0, .int .u8 r1, .int .u8 r2, .int .u8 r3, .int .u8 of, .slice ta T.length tc] ∧ (0 ≤ r0 ∧ r0 ≤ 255) ∧ (0 ≤ r1 ∧ r1 ≤ 255) ∧ (0 ≤ r2 ∧ r2 ≤ 255) ∧ (0 ≤ r3 ∧ r3 ≤ 255) ∧ (0 ≤ of ∧ of ≤ 255) ∧ Row2 W ta T ∧ ∀ v ∈ T, B2 v := by
  obtain ⟨hl, n, hp⟩ := struct_piece Try.underlying83 hx
  rw [show Try.prog.cellsOf 83 = 6 from by kernel_rfl] at hl
  obtain ⟨c0, c1, c2, c3, c4, c5, rfl⟩ : ∃ c0 c1 c2 c3 c4 c5, cs = [c0, c1, c2, c3, c4, c5] := by
    match cs, hl with
    | [c0, c1, c2, c3, c4, c5], _ => exact ⟨c0, c1, c2, c3, c4, c5, rfl⟩
  obtain ⟨y0, h0⟩ := hp _ List.mem_cons_self
  obtain ⟨y1, h1⟩ := hp _ (List.mem_cons_of_mem _ List.mem_cons_self)
  obtain ⟨y2, h2⟩ := hp _ (List.mem_cons_of_mem _ (List.mem_cons_of_mem _ List.mem_cons_self))
  have h0' : DataW.trod enc Try.prog W 0 (fun _ => true) true n 80 [c0, c1, c2, c3] = some y0 := by
    have e : Try.prog.cellsOf 80 = 4 := by kernel_rfl
    simpa only [List.drop_zero, e, List.take_succ_cons, List.take_zero] using h0
  have h1' : DataW.trod enc Try.prog W 0 (fun _ => true) true n 5 [c4] = some y1 := by
    have e : Try.prog.cellsOf 5 = 1 := by kernel_rfl
    simpa only [List.drop_succ_cons, List.drop_zero, e, List.take_succ_cons, List.take_zero] using h1
  have h2' : DataW.trod enc Try.prog W 0 (fun _ => true) true n 81 [c5] = some y2 := by
    have e : Try.prog.cellsOf 81 = 1 := by kernel_rfl
    simpa only [List.drop_succ_cons, List.drop_zero, e, List.take_succ_cons, List.take_zero] using h2
  obtain ⟨_, hat⟩ := allK_open (k := .u8) 5 80 (by kernel_rfl) _ _ _ h0'
  obtain ⟨l, hcs, hw⟩ := ints_of _ hat
  obtain ⟨of, e4, hof⟩ := int_open Try.underlying5 h1'
  obtain ⟨ta, T, tc, e5, rT, hT⟩ := row_flat (f := 5) (en := encV2) (G := B2) Try.underlying81 (k := .u8) (by kernel_rfl) (by kernel_rfl) (by decide) mk2 h2'
  obtain ⟨r0, r1, r2, r3, rfl⟩ : ∃ r0 r1 r2 r3, l = [r0, r1, r2, r3] := by
    have hl4 : l.length = 4 := by
      have := congrArg List.length hcs
      simpa using this.symm
    match l, hl4 with
    | [r0, r1, r2, r3], _ => exact ⟨r0, r1, r2, r3, rfl⟩
  simp only [List.map_cons, List.map_nil, List.cons.injEq, and_true] at hcs e4 e5
  obtain ⟨rfl, rfl, rfl, rfl⟩ := hcs
  subst e4
  subst e5
  exact ⟨r0, r1, r2, r3, of, T, ta, tc, rfl, bounds_u8 (hw r0 (by simp)), bounds_u8 (hw r1 (by simp)), bounds_u8 (hw r2 (by simp)), bounds_u8 (hw r3 (by simp)), bounds_u8 hof, rT, hT⟩

end Go.Proofs.Ytjdeojpapdphoaa

namespace Go.Proofs.Ytjdeojpapdphoaa
set_option linter.unusedVariables false
set_option linter.unusedSimpArgs false
open Go.RowKit Go.ChangeShapes

/-- A struct, or an array, of ints in so many cells. -/
theorem ints_flat {H : Type} {enc : TypeId × Value → H} {W : World} {t : TypeId} {f fuel : Nat} {cs : List Value} {x : DataW H × List MemPlace} (ha : allK Try.prog .i64 f t = true) (hx : DataW.trod enc Try.prog W 0 (fun _ => true) true fuel t cs = some x) :
    ∃ l : List Int, cs = l.map (Value.int .i64) := by
  obtain ⟨_, hat⟩ := allK_open (k := .i64) f t ha _ _ _ hx
  obtain ⟨l, hcs, hw⟩ := ints_of _ hat
  exact ⟨l, hcs⟩

theorem trod_len {H : Type} {enc : TypeId × Value → H} {P : Program} {W : World} {t : TypeId} {fs : Array Field} {fuel : Nat} {cs : List Value} {x : DataW H × List MemPlace} (hu : P.underlying t = some (.struct fs))
    (hx : DataW.trod enc P W 0 (fun _ => true) true fuel t cs = some x) : cs.length = P.cellsOf t := (struct_piece hu hx).1

set_option maxRecDepth 100000 in
theorem load_open {H : Type} {enc : TypeId × Value → H} {W : World} {fuel : Nat} {cs : List Value} {x : DataW H × List MemPlace} (hx : DataW.trod enc Try.prog W 0 (fun _ => true) true fuel 70 cs = some x) :
    ∃ y : Ld, cs = [.int .i64 y.sl, .int .i64 y.sh, .int .i64 y.wl, .int .i64 y.wh] := by
  have hl := trod_len Try.underlying70 hx
  rw [show Try.prog.cellsOf 70 = 4 from by kernel_rfl] at hl
  obtain ⟨l, rfl⟩ := ints_flat (f := 5) (by kernel_rfl) hx
  rw [List.length_map] at hl
  match l, hl with
  | [a, b, c, d], _ => exact ⟨⟨a, b, c, d⟩, rfl⟩

theorem mkLd (l : List Int) (hl : l.length = 4) (hw : ∀ n ∈ l, (Lit.int .i64 n).wf = true) : ∃ y : Ld, encL y = l.map (Value.int .i64) ∧ True := by
  match l, hl with
  | [a, b, c, d], _ => exact ⟨⟨a, b, c, d⟩, rfl, trivial⟩

theorem mkSt (l : List Int) (hl : l.length = 2) (hw : ∀ n ∈ l, (Lit.int .i64 n).wf = true) : ∃ y : Stp, encT y = l.map (Value.int .i64) ∧ True := by
  match l, hl with
  | [a, b], _ => exact ⟨⟨a, b⟩, rfl, trivial⟩

set_option maxRecDepth 100000 in
theorem stack_open {H : Type} {enc : TypeId × Value → H} {W : World} {v : Value} {d : DataW H} {ps : List MemPlace} {r : Reach} {b0 : Nat} (hval : Value.okWide Try.prog W r b0 53 v) (h : DataW.Trod enc Try.prog W 0 (fun _ => true) true 53 v d ps) :
    ∃ (a : Option Addr) (l : List Ld) (cap : Nat), v = .slice a l.length cap ∧ LRow W a l := by
  obtain ⟨a0, len0, cap0, rfl⟩ := Go.WideShapes.okWide_slice Try.underlying53 hval
  obtain ⟨fuel, hf⟩ := h
  obtain ⟨a, l, cap, e, rl, _⟩ := row_flat (f := 5) (en := encL) (G := fun _ => True) Try.underlying53 (k := .i64) (by kernel_rfl) (by kernel_rfl) (by decide) mkLd hf
  have e' : [Value.slice a0 len0 cap0] = [.slice a l.length cap] := e
  injection e' with e' _
  exact ⟨a, l, cap, e', rl⟩

set_option maxRecDepth 100000 in
theorem table_open {H : Type} {enc : TypeId × Value → H} {W : World} {v : Value} {d : DataW H} {ps : List MemPlace} {r : Reach} {b0 : Nat} (hval : Value.okWide Try.prog W r b0 54 v) (h : DataW.Trod enc Try.prog W 0 (fun _ => true) true 54 v d ps) :
    ∃ (a : Option Addr) (l : List Stp) (cap : Nat), v = .slice a l.length cap ∧ TRow W a l := by
  obtain ⟨a0, len0, cap0, rfl⟩ := Go.WideShapes.okWide_slice Try.underlying54 hval
  obtain ⟨fuel, hf⟩ := h
  obtain ⟨a, l, cap, e, rl, _⟩ := row_flat (f := 5) (en := encT) (G := fun _ => True) Try.underlying54 (k := .i64) (by kernel_rfl) (by kernel_rfl) (by decide) mkSt hf
  have e' : [Value.slice a0 len0 cap0] = [.slice a l.length cap] := e
  injection e' with e' _
  exact ⟨a, l, cap, e', rl⟩

end Go.Proofs.Ytjdeojpapdphoaa
