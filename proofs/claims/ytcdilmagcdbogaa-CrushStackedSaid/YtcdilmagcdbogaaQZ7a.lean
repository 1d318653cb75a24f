/- The fewest readings that are left out: the least list of all sets is one of the windows'. The reference's In, Span, Box, Strength of chapter 3. TopTestedBoard's numbers: lots that surely pass, surely fail. crush: what is known of a lot, as more is read of it. Append onto one of two rows: the rows stay apart. Contracts of the law's ints and passes. The reference's Readings, Rule, Passes of chapter 3; Decide and Need of what is not valid. (Made by gen_o4.py.) A region that draws its order, in which two rows are appended to, one after the other: the facts of the other operations stay while blocks of Z alone turn; the rows' state goes from S0 to S1 to S2. A region that draws its order: many operations that only read, one operation that does not wait for them (an allocation), then stores: one walk of the reads serves every order. The law's lot: a rule, an off, truths and readings. The reference's Truth and Decide of chapter 3. (Made by gen_o5.py.) The reference's Less and Close of chapter 3. Chapter 3's piles: boxes and a table out of bytes. Chapter 3's piles: the law's pile. (Made by gen_n2.py.) Chapter 3's piles: boxes, steps, byteOf. Chapter 3's piles: the law's stays. What CrushStands says of piles, without memory. The reference's Boxes and Stack of chapter 3. The reference's Kept, Load and Fails of chapter 3. The reference's Fall and Stands of chapter 3: day by day it is as step by step. Equal boxes: when they stand; the reference's High. With stronger or lighter boxes, or fewer days, High and Most are not smaller. Orders of boxes against sets of boxes: what stands in some order, and the smallest order. A region that draws its order, in which two variables are made and written once each, among reads. -/
import Derived.Test.YtcdilmagcdbogaaQI33c
import Derived.Test.YtcdilmagcdbogaaQI33a
import Derived.BigQuiet
import Derived.Lib.MinMax
import Derived.Deep.CutRange
import Derived.Deep.AppendLies
import Derived.Deep.MidRow
import Derived.Test.YtcdilmagcdbogaaQI33b
namespace Go.Proofs.Ytcdilmagcdbogaa
set_option linter.unusedVariables false
set_option linter.unusedSimpArgs false
open Go.RowKit

/-- The shorter list is smaller, then number by number. -/
def lexI : List Int → List Int → Bool
  | x :: a, y :: b => if x = y then lexI a b else decide (x < y)
  | _, _ => false

def lessI (a b : List Int) : Bool := if a.length = b.length then lexI a b else decide (a.length < b.length)

theorem lexI_self : ∀ a : List Int, lexI a a = false
  | [] => rfl
  | x :: a => by
    unfold lexI
    rw [if_pos rfl]
    exact lexI_self a

theorem lexI_at : ∀ (a b : List Int) (k : Nat) (x y : Int), a.take k = b.take k → a[k]? = some x → b[k]? = some y → x ≠ y → lexI a b = decide (x < y)
  | [], b, k, x, y, _, h, _, _ => by simp at h
  | u :: a, [], k, x, y, _, _, h, _ => by simp at h
  | u :: a, v :: b, 0, x, y, _, h1, h2, h3 => by
    simp at h1 h2
    subst h1
    subst h2
    unfold lexI
    rw [if_neg h3]
  | u :: a, v :: b, k + 1, x, y, h0, h1, h2, h3 => by
    simp only [List.take_succ_cons, List.cons.injEq] at h0
    unfold lexI
    rw [if_pos h0.1]
    exact lexI_at a b k x y h0.2 (by simpa using h1) (by simpa using h2) h3

theorem lexI_trans : ∀ (a b c : List Int), a.length = b.length → b.length = c.length → lexI a b = true → lexI b c = true → lexI a c = true
  | [], b, c, _, _, h, _ => by cases b <;> simp [lexI] at h
  | x :: a, [], c, h, _, _, _ => by simp at h
  | x :: a, y :: b, [], _, h, _, _ => by simp at h
  | x :: a, y :: b, z :: c, h1, h2, h3, h4 => by
    simp only [lexI] at h3 h4 ⊢
    simp only [List.length_cons, Nat.add_right_cancel_iff] at h1 h2
    by_cases e1 : x = y
    · rw [if_pos e1] at h3
      subst e1
      by_cases e2 : x = z
      · rw [if_pos e2] at h4 ⊢
        exact lexI_trans a b c h1 h2 h3 h4
      · rw [if_neg e2] at h4 ⊢
        exact h4
    · rw [if_neg e1] at h3
      simp only [decide_eq_true_eq] at h3
      by_cases e2 : y = z
      · subst e2
        rw [if_neg e1]
        simpa using h3
      · rw [if_neg e2] at h4
        simp only [decide_eq_true_eq] at h4
        rw [if_neg (by omega)]
        simp
        omega

theorem lexI_tri : ∀ (a b : List Int), a.length = b.length → lexI a b = false → lexI b a = false → a = b
  | [], b, h, _, _ => by cases b with
    | nil => rfl
    | cons y b => simp at h
  | x :: a, [], h, _, _ => by simp at h
  | x :: a, y :: b, h, h1, h2 => by
    simp only [lexI] at h1 h2
    simp only [List.length_cons, Nat.add_right_cancel_iff] at h
    by_cases e : x = y
    · subst e
      rw [if_pos rfl] at h1 h2
      rw [lexI_tri a b h h1 h2]
    · rw [if_neg e] at h1
      rw [if_neg (fun e' => e e'.symm)] at h2
      simp only [decide_eq_false_iff_not] at h1 h2
      omega

theorem lessI_trans {a b c : List Int} (h1 : lessI a b = true) (h2 : lessI b c = true) : lessI a c = true := by
  unfold lessI at h1 h2 ⊢
  by_cases e1 : a.length = b.length
  · rw [if_pos e1] at h1
    by_cases e2 : b.length = c.length
    · rw [if_pos e2] at h2
      rw [if_pos (e1.trans e2)]
      exact lexI_trans a b c e1 e2 h1 h2
    · rw [if_neg e2] at h2
      rw [if_neg (by omega), e1]
      exact h2
  · rw [if_neg e1] at h1
    simp only [decide_eq_true_eq] at h1
    by_cases e2 : b.length = c.length
    · rw [if_neg (by omega)]
      simp
      omega
    · rw [if_neg e2] at h2
      simp only [decide_eq_true_eq] at h2
      rw [if_neg (by omega)]
      simp
      omega

theorem lessI_tri {a b : List Int} (h1 : lessI a b = false) (h2 : lessI b a = false) : a = b := by
  unfold lessI at h1 h2
  by_cases e : a.length = b.length
  · rw [if_pos e] at h1
    rw [if_pos e.symm] at h2
    exact lexI_tri a b e h1 h2
  · rw [if_neg e] at h1
    rw [if_neg (fun e' => e e'.symm)] at h2
    simp only [decide_eq_false_iff_not] at h1 h2
    omega

theorem comp_lex : ∀ (a b : List Int), a.length = b.length → (compL a b < 0 ↔ lexI a b = true)
  | [], [], _ => by simp [compL, lexI]
  | [], y :: b, h => by simp at h
  | x :: a, [], h => by simp at h
  | x :: a, y :: b, h => by
    have ih := comp_lex a b (by simpa using h)
    unfold compL lexI
    by_cases e : x = y
    · subst e
      rw [if_pos (by simp [Lib.compareInt]), if_pos rfl]
      exact ih
    · rcases Int.lt_or_gt_of_ne e with e2 | e2
      · have hc : Lib.compareInt x y = -1 := by unfold Lib.compareInt; rw [if_pos e2]
        rw [hc, if_neg (by decide), if_neg e]
        simp [e2]
      · have hc : Lib.compareInt x y = 1 := by unfold Lib.compareInt; rw [if_neg (by omega), if_pos e2]
        rw [hc, if_neg (by decide), if_neg e]
        have : ¬ x < y := by omega
        simp [this]

/-- What can be true of a reading. -/
def loO (off r : Int) : Int := max 0 (r - off)

def hiO (off r : Int) : Int := min 100000 (r + off)

def closeB (off spread : Int) (R : List Int) : Bool := R.all (fun x => R.all (fun y => decide (loO off x - hiO off y ≤ spread)))

theorem close_iff {off spread : Int} {R : List Int} : closeB off spread R = true ↔ ∀ x ∈ R, ∀ y ∈ R, loO off x - hiO off y ≤ spread := by
  unfold closeB
  simp only [List.all_eq_true, decide_eq_true_eq]

/-- The readings that are left out by a set, and the others. -/
def outQ (n : Nat) (q : Nat → Bool) : List Nat := (List.range n).filter q

def restQ (l : List Int) (q : Nat → Bool) : List Int := ((List.range l.length).filter (fun i => !q i)).map (fun i => l.getD i 0)

def winB (off spread : Int) (l : List Int) (j i : Nat) : Bool := !inWin off spread (hiO off (l.getD j 0)) (l.getD i 0)

theorem left_out (off spread : Int) (l : List Int) (j : Nat) : leftL off spread l j = outQ l.length (winB off spread l j) := rfl

theorem win_iff {off spread : Int} {l : List Int} {j i : Nat} : winB off spread l j i = false ↔ hiO off (l.getD j 0) ≤ hiO off (l.getD i 0) ∧ loO off (l.getD i 0) ≤ hiO off (l.getD j 0) + spread := by
  unfold winB inWin
  simp only [Bool.not_eq_false', Bool.and_eq_true, decide_eq_true_eq]
  exact Iff.rfl

theorem rest_mem {l : List Int} {q : Nat → Bool} {x : Int} : x ∈ restQ l q ↔ ∃ i, i < l.length ∧ q i = false ∧ l.getD i 0 = x := by
  unfold restQ
  simp only [List.mem_map, List.mem_filter, List.mem_range, Bool.not_eq_true']
  constructor
  · rintro ⟨i, ⟨h1, h2⟩, h3⟩
    exact ⟨i, h1, h2, h3⟩
  · rintro ⟨i, h1, h2, h3⟩
    exact ⟨i, ⟨h1, h2⟩, h3⟩

/-- Without what a window leaves out the others are close. -/
theorem win_close (off spread : Int) (l : List Int) (j : Nat) : closeB off spread (restQ l (winB off spread l j)) = true := by
  rw [close_iff]
  intro x hx y hy
  obtain ⟨i, hi, h1, rfl⟩ := rest_mem.1 hx
  obtain ⟨k, hk, h2, rfl⟩ := rest_mem.1 hy
  have a := win_iff.1 h1
  have b := win_iff.1 h2
  omega

theorem filter_le {p q : Nat → Bool} : ∀ (L : List Nat), (∀ i ∈ L, p i = true → q i = true) → (L.filter p).length ≤ (L.filter q).length
  | [], _ => Nat.le_refl _
  | x :: L, h => by
    have ih := filter_le L (fun i hi => h i (List.mem_cons_of_mem _ hi))
    cases hp : p x with
    | true =>
      rw [List.filter_cons, List.filter_cons, if_pos hp, if_pos (h x List.mem_cons_self hp)]
      simp only [List.length_cons]
      omega
    | false =>
      rw [List.filter_cons, if_neg (by rw [hp]; decide), List.filter_cons]
      split
      · simp only [List.length_cons]
        omega
      · exact ih

theorem filter_eq {p q : Nat → Bool} : ∀ L : List Nat, (∀ i ∈ L, p i = true → q i = true) → (L.filter p).length = (L.filter q).length → L.filter p = L.filter q
  | [], _, _ => rfl
  | x :: L, h, he => by
    have h' : ∀ i ∈ L, p i = true → q i = true := fun i hi => h i (List.mem_cons_of_mem _ hi)
    have hle : (L.filter p).length ≤ (L.filter q).length := filter_le L h'
    cases hp : p x with
    | true =>
      have hq := h x List.mem_cons_self hp
      rw [List.filter_cons, List.filter_cons, if_pos hp, if_pos hq] at *
      rw [filter_eq L h' (by simpa using he)]
    | false =>
      cases hq : q x with
      | true =>
        rw [List.filter_cons, List.filter_cons, if_neg (by rw [hp]; decide), if_pos hq] at he
        simp at he
        omega
      | false =>
        rw [List.filter_cons, List.filter_cons, if_neg (by rw [hp]; decide), if_neg (by rw [hq]; decide)] at *
        exact filter_eq L h' he

/-- A least one of some. -/
theorem least_at (p : Nat → Bool) (v : Nat → Int) : ∀ n : Nat, (∃ j, j < n ∧ p j = true) → ∃ j, j < n ∧ p j = true ∧ ∀ i, i < n → p i = true → v j ≤ v i
  | 0, h => by obtain ⟨j, hj, _⟩ := h; omega
  | n + 1, h => by
    by_cases h' : ∃ j, j < n ∧ p j = true
    · obtain ⟨j, h1, h2, h3⟩ := least_at p v n h'
      by_cases e : p n = true ∧ v n < v j
      · refine ⟨n, by omega, e.1, fun i hi hpi => ?_⟩
        rcases Nat.lt_or_ge i n with h4 | h4
        · have := h3 i h4 hpi
          omega
        · obtain rfl : i = n := by omega
          omega
      · refine ⟨j, by omega, h2, fun i hi hpi => ?_⟩
        rcases Nat.lt_or_ge i n with h4 | h4
        · exact h3 i h4 hpi
        · obtain rfl : i = n := by omega
          have : ¬ v i < v j := fun e' => e ⟨hpi, e'⟩
          omega
    · obtain ⟨j, hj, hpj⟩ := h
      obtain rfl : j = n := by
        rcases Nat.lt_or_ge j n with h4 | h4
        · exact absurd ⟨j, h4, hpj⟩ h'
        · omega
      refine ⟨j, hj, hpj, fun i hi hpi => ?_⟩
      rcases Nat.lt_or_ge i j with h4 | h4
      · exact absurd ⟨i, h4, hpi⟩ h'
      · obtain rfl : i = j := by omega
        exact Int.le_refl _

/-- A set that leaves the others close leaves out all that some window does. -/
theorem close_win {off spread : Int} (o0 : 0 ≤ off) (s0 : 0 ≤ spread) {l : List Int} (hl : ∀ x ∈ l, 0 ≤ x ∧ x ≤ 100000) (hn : 0 < l.length) {q : Nat → Bool} (h : closeB off spread (restQ l q) = true) : ∃ j, j < l.length ∧ ∀ i ∈ List.range l.length, winB off spread l j i = true → q i = true := by
  have hb : ∀ i, i < l.length → 0 ≤ l.getD i 0 ∧ l.getD i 0 ≤ 100000 := fun i hi => by
    obtain ⟨x, _, e, hx⟩ := getD_in hi
    rw [e]
    exact hl x hx
  by_cases hc : ∃ j, j < l.length ∧ (!q j) = true
  · obtain ⟨j, h1, h2, h3⟩ := least_at (fun i => !q i) (fun i => hiO off (l.getD i 0)) l.length hc
    refine ⟨j, h1, fun i hi hw => ?_⟩
    have hi' := List.mem_range.1 hi
    cases hq : q i with
    | true => rfl
    | false =>
      have a := h3 i hi' (by simp [hq])
      have b := close_iff.1 h (l.getD i 0) (rest_mem.2 ⟨i, hi', hq, rfl⟩) (l.getD j 0) (rest_mem.2 ⟨j, h1, by simpa using h2, rfl⟩)
      have c : winB off spread l j i = false := win_iff.2 ⟨a, by omega⟩
      rw [c] at hw
      cases hw
  · refine ⟨0, hn, fun i hi hw => ?_⟩
    have hi' := List.mem_range.1 hi
    cases hq : q i with
    | true => rfl
    | false => exact absurd ⟨i, hi', by simp [hq]⟩ hc

theorem odd_all (off spread : Int) (l : List Int) : ∀ k j : Nat, j < k → lessI (intsN (leftL off spread l j)) (intsN (oddTo off spread l k)) = false
  | 0, j, h => by omega
  | k + 1, j, h => by
    have self : ∀ a : List Int, lessI a a = false := fun a => by unfold lessI; rw [if_pos rfl, lexI_self]
    have key : (k = 0 ∨ (leftL off spread l k).length < (oddTo off spread l k).length ∨ ((leftL off spread l k).length = (oddTo off spread l k).length ∧ compL (intsN (leftL off spread l k)) (intsN (oddTo off spread l k)) < 0)) ↔ (k = 0 ∨ lessI (intsN (leftL off spread l k)) (intsN (oddTo off spread l k)) = true) := by
      unfold lessI
      rw [intsN_len, intsN_len]
      by_cases e : (leftL off spread l k).length = (oddTo off spread l k).length
      · rw [if_pos e]
        have := comp_lex (intsN (leftL off spread l k)) (intsN (oddTo off spread l k)) (by rw [intsN_len, intsN_len]; exact e)
        constructor
        · rintro (h1 | h1 | h1)
          · exact .inl h1
          · omega
          · exact .inr (this.1 h1.2)
        · rintro (h1 | h1)
          · exact .inl h1
          · exact .inr (.inr ⟨e, this.2 h1⟩)
      · rw [if_neg e]
        simp only [decide_eq_true_eq]
        constructor
        · rintro (h1 | h1 | h1)
          · exact .inl h1
          · exact .inr h1
          · omega
        · rintro (h1 | h1)
          · exact .inl h1
          · exact .inr (.inl h1)
    unfold oddTo
    by_cases c : (k = 0 ∨ (leftL off spread l k).length < (oddTo off spread l k).length ∨ ((leftL off spread l k).length = (oddTo off spread l k).length ∧ compL (intsN (leftL off spread l k)) (intsN (oddTo off spread l k)) < 0))
    · rw [if_pos c]
      rcases Nat.lt_or_ge j k with e | e
      · rcases key.1 c with h0 | h0
        · omega
        · cases hl : lessI (intsN (leftL off spread l j)) (intsN (leftL off spread l k)) with
          | false => rfl
          | true =>
            have := lessI_trans hl h0
            rw [odd_all off spread l k j e] at this
            cases this
      · obtain rfl : j = k := by omega
        exact self _
    · rw [if_neg c]
      rcases Nat.lt_or_ge j k with e | e
      · exact odd_all off spread l k j e
      · obtain rfl : j = k := by omega
        cases hl : lessI (intsN (leftL off spread l j)) (intsN (oddTo off spread l j)) with
        | false => rfl
        | true => exact absurd (key.2 (.inr hl)) c

theorem odd_is (off spread : Int) (l : List Int) : ∀ k : Nat, 0 < k → ∃ j, j < k ∧ oddTo off spread l k = leftL off spread l j
  | 0, h => by omega
  | k + 1, _ => by
    unfold oddTo
    split
    · exact ⟨k, by omega, rfl⟩
    · rename_i h
      obtain ⟨j, h1, h2⟩ := odd_is off spread l k (by omega)
      exact ⟨j, by omega, h2⟩

/-- No set that leaves the others close is smaller than Odd's. -/
theorem odd_least {off spread : Int} (o0 : 0 ≤ off) (s0 : 0 ≤ spread) {l : List Int} (hl : ∀ x ∈ l, 0 ≤ x ∧ x ≤ 100000) (hn : 0 < l.length) {q : Nat → Bool} (h : closeB off spread (restQ l q) = true) : lessI (intsN (outQ l.length q)) (intsN (oddTo off spread l l.length)) = false := by
  obtain ⟨j, hj, hs⟩ := close_win o0 s0 hl hn h
  have h1 := odd_all off spread l l.length j hj
  rw [left_out] at h1
  have hle := filter_le (p := winB off spread l j) (q := q) (List.range l.length) hs
  cases hc : lessI (intsN (outQ l.length q)) (intsN (oddTo off spread l l.length)) with
  | false => rfl
  | true =>
    by_cases e : (outQ l.length (winB off spread l j)).length = (outQ l.length q).length
    · have := filter_eq (List.range l.length) hs e
      unfold outQ at h1 hc
      rw [this, hc] at h1
      cases h1
    · have h2 : lessI (intsN (outQ l.length (winB off spread l j))) (intsN (outQ l.length q)) = true := by
        unfold lessI
        rw [intsN_len, intsN_len, if_neg e]
        simp only [decide_eq_true_eq]
        unfold outQ at e ⊢
        omega
      have := lessI_trans h2 hc
      rw [h1] at this
      cases this

end Go.Proofs.Ytcdilmagcdbogaa

namespace Go.Proofs.Ytcdilmagcdbogaa
set_option linter.unusedVariables false
set_option linter.unusedSimpArgs false
open Go.RowKit

theorem refIn_any (n lo hi : Int) (d : Bool) (hd : in1 lo hi n = d) (w : World) :
    Calls Try.prog 27 #[.int .i64 n, .int .i64 lo, .int .i64 hi] w fun e w' => e = .returned (.bool d) ∧ Gr w w' := by
  subst hd
  by_cases h : lo ≤ n
  · have E := Lib.hid (show in1 lo hi n = decide (n ≤ hi) by simp [in1, h])
    go_enter Try.func27, Try.ntmps27
    go_wp2
    go_ret
    exact ⟨ret_bool E.out.symm, Below.refl _ _⟩
  · have E := Lib.hid (show in1 lo hi n = false by simp [in1, h])
    have h' : decide (lo ≤ n) = false := by simpa using h
    go_enter Try.func27, Try.ntmps27
    go_wp2
    go_ret
    exact ⟨ret_bool E.out.symm, Below.refl _ _⟩

set_option maxRecDepth 100000 in
theorem refSpan_any (a b lo hi : Int) (d : Bool) (hd : okSpan lo hi a b = d) (w : World) :
    Calls Try.prog 85 #[.agg #[.int .i64 a, .int .i64 b], .int .i64 lo, .int .i64 hi] w fun e w' => e = .returned (.bool d) ∧ Gr w w' := by
  have gg := Gr.al w (.cells #[.int .i64 a, .int .i64 b] 45)
  have hb := Box.new w [.int .i64 a, .int .i64 b] 45 w.heap.size rfl
  obtain ⟨q0, q1⟩ := hb.c2
  cases c : in1 lo b a with
  | true =>
    have E := Lib.hid (show d = decide (b ≤ hi) by
      rw [← hd]
      simp [in1] at c
      by_cases h : b ≤ hi
      · simp [okSpan, inB, in1, h]
        omega
      · simp [okSpan, inB, in1, h])
    clear hd
    go_enter Try.func85, Try.ntmps85
    go_wp2_with (go_at_call 27; refine (refIn_any a lo b true c _).mono ?_; rintro e w1 ⟨rfl, g1⟩; replace hb := hb.keep g1; clear q0 q1; obtain ⟨q0, q1⟩ := hb.c2)
    go_ret
    exact ⟨ret_bool E.out.symm, gg.tr g1⟩
  | false =>
    have E := Lib.hid (show d = false by
      rw [← hd]
      cases h : okSpan lo hi a b with
      | false => rfl
      | true =>
        simp [okSpan, inB, in1] at h
        simp [in1] at c
        omega)
    clear hd
    go_enter Try.func85, Try.ntmps85
    go_wp2_with (go_at_call 27; refine (refIn_any a lo b false c _).mono ?_; rintro e w1 ⟨rfl, g1⟩; replace hb := hb.keep g1; clear q0 q1; obtain ⟨q0, q1⟩ := hb.c2)
    go_ret
    exact ⟨ret_bool E.out.symm, gg.tr g1⟩

theorem sq_bd {r N : Int} (h0 : 0 ≤ r) (h1 : r * r ≤ N) (h2 : N ≤ 200000000) : r ≤ 15000 := by
  rcases Int.lt_or_le 15000 r with h | h
  · have h3 : 15001 * 15001 ≤ r * r := Int.mul_le_mul (by omega) (by omega) (by omega) h0
    omega
  · exact h

set_option maxRecDepth 100000 in
set_option maxHeartbeats 2000000 in
theorem refStrength_any (edge cal ar ru : Int) (e0 : 0 ≤ edge) (e1 : edge ≤ 100000) (c0 : 1 ≤ cal) (c1 : cal ≤ 10000) (a0 : 1 ≤ ar) (a1 : ar ≤ 20000) (u0 : 1 ≤ ru) (u1 : ru ≤ 1000) (w : World) :
    Calls Try.prog 34 #[.int .i64 edge, .int .i64 cal, .int .i64 ar, .int .i64 ru] w fun e w' => e = .returned (.int .i64 (strongB ar ru edge cal)) ∧ Gr w w' := by
  have m0 : 1 ≤ cal * ar := by have := Int.mul_le_mul c0 a0 (by omega) (by omega); omega
  have m1 : cal * ar ≤ 10000 * 20000 := Int.mul_le_mul c1 a1 (by omega) (by omega)
  obtain ⟨N, hN⟩ : ∃ N, cal * ar = N := ⟨_, rfl⟩
  have E : strongB ar ru edge cal = edge * rootL N * ru / 100000 := by unfold strongB; rw [hN]
  have HE := Lib.hid E
  have wN : IntKind.i64.wrap (cal * ar) = N := by rw [IntWalk.i64_in _ (by omega)]; exact hN
  rw [hN] at m0 m1
  clear hN E
  go_enter Try.func34, Try.ntmps34
  go_wp2
  go_loopw [9] (fun i wr => Hid (∃ r : Nat, i = .int .i64 r ∧ (r : Int) * r ≤ N ∧ Gr w wr)) (fun i _ => 20000 - (intOf i).toNat)
  case atStart => exact Lib.hid ⟨0, rfl, by omega, Below.refl _ _⟩
  case round =>
    obtain ⟨r, rfl, hr, gW⟩ := hrel.out
    clear hrel
    have hb := sq_bd (by omega) hr (by omega)
    obtain ⟨P, hP⟩ : ∃ P, ((r : Int) + 1) * ((r : Int) + 1) = P := ⟨_, rfl⟩
    have p0 : 0 ≤ P := by rw [← hP]; exact Int.mul_nonneg (by omega) (by omega)
    have p1 : P ≤ 15001 * 15001 := by rw [← hP]; exact Int.mul_le_mul (by omega) (by omega) (by omega) (by omega)
    have w0 : IntKind.i64.wrap ((r : Int) + 1) = (r : Int) + 1 := IntWalk.i64_in _ (by omega)
    have w1 : IntKind.i64.wrap (((r : Int) + 1) * ((r : Int) + 1)) = P := by rw [hP]; exact IntWalk.i64_in _ (by omega)
    by_cases hlt : P ≤ N
    · have HP := Lib.hid hP
      clear hP
      go_wp2
      go_roundw
      case rel => exact Lib.hid ⟨r + 1, by go_num, by have := HP.out; push_cast; omega, gW⟩
      case measure => simp [intOf]; omega
    · have hroot : rootL N = (r : Int) := rootL_is (by omega) (by omega) hr (by rw [hP]; omega)
      obtain ⟨A1, hA1⟩ : ∃ A1, edge * (r : Int) = A1 := ⟨_, rfl⟩
      have q0 : 0 ≤ A1 := by rw [← hA1]; exact Int.mul_nonneg e0 (by omega)
      have q1 : A1 ≤ 100000 * 15000 := by rw [← hA1]; exact Int.mul_le_mul e1 hb (by omega) (by omega)
      obtain ⟨A2, hA2⟩ : ∃ A2, A1 * ru = A2 := ⟨_, rfl⟩
      have q2 : 0 ≤ A2 := by rw [← hA2]; exact Int.mul_nonneg q0 (by omega)
      have q3 : A2 ≤ 100000 * 15000 * 1000 := by rw [← hA2]; exact Int.mul_le_mul q1 u1 (by omega) (by omega)
      have w2 : IntKind.i64.wrap (edge * (r : Int)) = A1 := by rw [hA1]; exact IntWalk.i64_in _ (by omega)
      have w3 : IntKind.i64.wrap (A1 * ru) = A2 := by rw [hA2]; exact IntWalk.i64_in _ (by omega)
      have z0 : A2.tdiv 100000 = A2 / 100000 := Int.tdiv_eq_ediv_of_nonneg q2
      have w4 : IntKind.i64.wrap (A2 / 100000) = A2 / 100000 := IntWalk.i64_in _ (by omega)
      have HE2 := Lib.hid (show strongB ar ru edge cal = A2 / 100000 by rw [HE.out, hroot, hA1, hA2])
      clear hA1 hA2 hroot hP
      go_wp2
      go_ret
      exact ⟨by rw [HE2.out]; rfl, gW⟩

set_option maxRecDepth 100000 in
set_option maxHeartbeats 2000000 in
theorem refBox_any (el eh cl ch ar ru : Int) (d : Bool) (hd : boxOk el eh cl ch ar ru = d) (w : World) :
    Calls Try.prog 32 #[.agg #[.int .i64 el, .int .i64 eh, .int .i64 cl, .int .i64 ch, .int .i64 ar, .int .i64 ru]] w fun e w' => e = .returned (.bool d) ∧ Gr w w' := by
  have gg := Gr.al w (.cells #[.int .i64 el, .int .i64 eh, .int .i64 cl, .int .i64 ch, .int .i64 ar, .int .i64 ru] 47)
  have hb := Box.new w [.int .i64 el, .int .i64 eh, .int .i64 cl, .int .i64 ch, .int .i64 ar, .int .i64 ru] 47 w.heap.size rfl
  obtain ⟨q0, q1, q2, q3, q4, q5⟩ := hb.c6'
  have HD : d = (okSpan 0 100000 el eh && okSpan 1 10000 cl ch && in1 1 20000 ar && in1 1 1000 ru) := by
    rw [← hd]
    simp [boxOk, inB]
  clear hd
  have tok0 : True := trivial
  have tok1 : True := trivial
  cases c0 : okSpan 0 100000 el eh <;> cases c1 : okSpan 1 10000 cl ch <;> cases c2 : in1 1 20000 ar <;> cases c3 : in1 1 1000 ru
  all_goals
    rw [c0, c1, c2, c3] at HD
    have HD2 := Lib.hid HD
    clear HD
    go_enter Try.func32, Try.ntmps32
    go_wp2_with (first
      | (have _t := tok0; clear tok0 _t; go_at_call 85; refine (refSpan_any el eh 0 100000 _ c0 _).mono ?_; rintro e w1 ⟨rfl, hx⟩; replace gg := gg.tr hx; replace hb := hb.keep hx; clear hx q0 q1 q2 q3 q4 q5; obtain ⟨q0, q1, q2, q3, q4, q5⟩ := hb.c6')
      | (go_at_call 85; refine (refSpan_any cl ch 1 10000 _ c1 _).mono ?_; rintro e w1 ⟨rfl, hx⟩; replace gg := gg.tr hx; replace hb := hb.keep hx; clear hx q0 q1 q2 q3 q4 q5; obtain ⟨q0, q1, q2, q3, q4, q5⟩ := hb.c6')
      | (have _t := tok1; clear tok1 _t; go_at_call 27; refine (refIn_any ar 1 20000 _ c2 _).mono ?_; rintro e w1 ⟨rfl, hx⟩; replace gg := gg.tr hx; replace hb := hb.keep hx; clear hx q0 q1 q2 q3 q4 q5; obtain ⟨q0, q1, q2, q3, q4, q5⟩ := hb.c6')
      | (go_at_call 27; refine (refIn_any ru 1 1000 _ c3 _).mono ?_; rintro e w1 ⟨rfl, hx⟩; replace gg := gg.tr hx; replace hb := hb.keep hx; clear hx q0 q1 q2 q3 q4 q5; obtain ⟨q0, q1, q2, q3, q4, q5⟩ := hb.c6'))
    go_ret
    exact ⟨ret_bool HD2.out.symm, gg⟩

end Go.Proofs.Ytcdilmagcdbogaa

namespace Go.Proofs.Ytcdilmagcdbogaa
set_option linter.unusedVariables false
set_option linter.unusedSimpArgs false
open Go.RowKit

theorem sumS_ge (hi : Bool) (m : Int) : ∀ l : List (Int × Int), (∀ x ∈ l, m ≤ if hi then x.2 else x.1) → (l.length : Int) * m ≤ sumS hi l
  | [], _ => by simp [sumS]
  | y :: l, h => by
    have h1 := sumS_ge hi m l (fun x hx => h x (List.mem_cons_of_mem _ hx))
    have h2 := h y List.mem_cons_self
    simp only [sumS, List.length_cons]
    rw [show ((l.length + 1 : Nat) : Int) = (l.length : Int) + 1 by omega, Int.add_mul, Int.one_mul]
    omega

theorem sumS_le (hi : Bool) (m : Int) : ∀ l : List (Int × Int), (∀ x ∈ l, (if hi then x.2 else x.1) ≤ m) → sumS hi l ≤ (l.length : Int) * m
  | [], _ => by simp [sumS]
  | y :: l, h => by
    have h1 := sumS_le hi m l (fun x hx => h x (List.mem_cons_of_mem _ hx))
    have h2 := h y List.mem_cons_self
    simp only [sumS, List.length_cons]
    rw [show ((l.length + 1 : Nat) : Int) = (l.length : Int) + 1 by omega, Int.add_mul, Int.one_mul]
    omega

theorem badS_len (hi : Bool) (low : Int) : ∀ l : List (Int × Int), badS hi low l ≤ (l.length : Int)
  | [] => by simp [badS]
  | y :: l => by
    have := badS_len hi low l
    simp only [badS, List.length_cons]
    split <;> split <;> omega

theorem truthsL_len (te : Nat) (off : Int) (l : List Int) : (truthsL te off l).length = te := by simp [truthsL]

/-- All readings so great that the least truths are at least the mean: the lot passes. -/
theorem state_pass (n : Nat) (m off : Int) (l : List Int) (h : ∀ k, k < n → m ≤ (truthAt off l k).1) : stateL (n : Int) m 0 (n : Int) (truthsL n off l) = 1 := by
  have hall : ∀ x ∈ truthsL n off l, m ≤ if false = true then x.2 else x.1 := fun x hx => by
    obtain ⟨k, hk, rfl⟩ := List.mem_map.1 hx
    simpa using h k (List.mem_range.1 hk)
  have h1 := sumS_ge false m _ hall
  have h2 := badS_len false 0 (truthsL n off l)
  rw [truthsL_len] at h1 h2
  unfold stateL
  rw [if_pos]
  unfold passB
  rw [decide_eq_true h2, decide_eq_true h1]
  rfl

/-- All readings so small that the greatest truths are below the mean: it fails. -/
theorem state_fail (n : Nat) (hn : 1 ≤ n) (m off : Int) (l : List Int) (h : ∀ k, k < n → (truthAt off l k).2 ≤ m - 1 ∧ (truthAt off l k).1 ≤ m - 1) : stateL (n : Int) m 0 (n : Int) (truthsL n off l) = 2 := by
  have aux : ∀ hi : Bool, passB hi (n : Int) m 0 (n : Int) (truthsL n off l) = false := fun hi => by
    have hall : ∀ x ∈ truthsL n off l, (if hi then x.2 else x.1) ≤ m - 1 := fun x hx => by
      obtain ⟨k, hk, rfl⟩ := List.mem_map.1 hx
      have := h k (List.mem_range.1 hk)
      cases hi
      · simpa using this.2
      · simpa using this.1
    have h1 := sumS_le hi (m - 1) _ hall
    rw [truthsL_len, Int.mul_sub, Int.mul_one] at h1
    have h3 : ¬ (n : Int) * m ≤ sumS hi (truthsL n off l) := by omega
    unfold passB
    rw [decide_eq_false h3, Bool.and_false]
  unfold stateL
  rw [aux false, aux true]
  simp

/-- A lot that passes with n tests needs at most n. -/
theorem need_in (n : Nat) (m low ba off : Int) (st rd : Int) (h : stAt n m low ba off [] rd n = st) : 0 ≤ needL n m low ba off [] st rd ∧ needL n m low ba off [] st rd ≤ n := by
  unfold needL
  cases hf : (List.range (n + 1 - ([] : List Int).length)).find? (fun k => decide (stAt n m low ba off [] rd k = st)) with
  | none =>
    rw [List.find?_range_eq_none] at hf
    have := hf n (by simp)
    simp [h] at this
  | some k =>
    have := List.mem_range.1 (List.mem_of_find?_eq_some hf)
    simp at this ⊢
    omega

/-- What fails needs none. -/
theorem need_zero (n : Nat) (m low ba off : Int) (l : List Int) (hl : l.length ≤ n) (st rd : Int) (h : stateL (n : Int) m low ba (truthsL n off l) = st) : needL n m low ba off l st rd = 0 := by
  have hf : (List.range (n + 1 - l.length)).find? (fun k => decide (stAt n m low ba off l rd k = st)) = some 0 := by
    rw [List.find?_range_eq_some]
    exact ⟨by simp [stAt, h], List.mem_range.2 (by omega), fun j hj => by omega⟩
  unfold needL
  rw [hf]
  rfl

end Go.Proofs.Ytcdilmagcdbogaa

namespace Go.Proofs.Ytcdilmagcdbogaa
set_option linter.unusedVariables false
set_option linter.unusedSimpArgs false

/-- Truths that lie within others. -/
def Within : List (Int × Int) → List (Int × Int) → Prop
  | [], [] => True
  | x :: l, y :: m => (x.1 ≤ y.1 ∧ y.2 ≤ x.2) ∧ Within l m
  | _, _ => False

theorem within_sum : ∀ {l m : List (Int × Int)}, Within l m → sumS false l ≤ sumS false m ∧ sumS true m ≤ sumS true l
  | [], [], _ => by simp [sumS]
  | x :: l, y :: m, h => by
    obtain ⟨⟨a, b⟩, c⟩ := h
    obtain ⟨p, q⟩ := within_sum c
    simp only [sumS, Bool.false_eq_true, if_false, if_true]
    omega
  | [], _ :: _, h => h.elim
  | _ :: _, [], h => h.elim

theorem within_bad {low : Int} : ∀ {l m : List (Int × Int)}, Within l m → badS false low m ≤ badS false low l ∧ badS true low l ≤ badS true low m
  | [], [], _ => by simp [badS]
  | x :: l, y :: m, h => by
    obtain ⟨⟨a, b⟩, c⟩ := h
    obtain ⟨p, q⟩ := within_bad (low := low) c
    simp only [badS, Bool.false_eq_true, if_false, if_true]
    have h1 : (if y.1 < low then (1 : Int) else 0) ≤ if x.1 < low then 1 else 0 := by split <;> split <;> omega
    have h2 : (if x.2 < low then (1 : Int) else 0) ≤ if y.2 < low then 1 else 0 := by split <;> split <;> omega
    omega
  | [], _ :: _, h => h.elim
  | _ :: _, [], h => h.elim

theorem passB_iff {hi : Bool} {te me low ba : Int} {l : List (Int × Int)} : passB hi te me low ba l = true ↔ badS hi low l ≤ ba ∧ te * me ≤ sumS hi l := by
  unfold passB
  rw [Bool.and_eq_true, decide_eq_true_eq, decide_eq_true_eq]

theorem within_lo {te me low ba : Int} {l m : List (Int × Int)} (h : Within l m) (hp : passB false te me low ba l = true) : passB false te me low ba m = true := by
  rw [passB_iff] at hp ⊢
  have h1 := within_sum h
  have h2 := within_bad (low := low) h
  omega

theorem within_hi {te me low ba : Int} {l m : List (Int × Int)} (h : Within l m) (hp : passB true te me low ba m = true) : passB true te me low ba l = true := by
  rw [passB_iff] at hp ⊢
  have h1 := within_sum h
  have h2 := within_bad (low := low) h
  omega

theorem within_map {f g : Nat → Int × Int} : ∀ L : List Nat, (∀ k ∈ L, (f k).1 ≤ (g k).1 ∧ (g k).2 ≤ (f k).2) → Within (L.map f) (L.map g)
  | [], _ => trivial
  | x :: L, h => ⟨h x List.mem_cons_self, within_map L (fun k hk => h k (List.mem_cons_of_mem _ hk))⟩

/-- Truths that are known. -/
def diag (l : List Int) : List (Int × Int) := l.map fun t => (t, t)

theorem diag_sum (hi : Bool) : ∀ l, sumS hi (diag l) = sumS false (diag l)
  | [] => rfl
  | x :: l => by
    have := diag_sum hi l
    simp only [diag, List.map_cons] at this ⊢
    cases hi <;> simp [sumS] <;> simpa using this

theorem diag_bad (hi : Bool) (low : Int) : ∀ l, badS hi low (diag l) = badS false low (diag l)
  | [] => rfl
  | x :: l => by
    have := diag_bad hi low l
    simp only [diag, List.map_cons] at this ⊢
    cases hi <;> simp [badS] <;> simpa using this

theorem diag_pass (hi : Bool) (te me low ba : Int) (l : List Int) : passB hi te me low ba (diag l) = passB false te me low ba (diag l) := by
  unfold passB
  rw [diag_sum hi, diag_bad hi]

theorem state_one {te me low ba : Int} {X : List (Int × Int)} : stateL te me low ba X = 1 ↔ passB false te me low ba X = true := by
  unfold stateL
  by_cases h : passB false te me low ba X = true
  · simp [h]
  · rw [if_neg h]
    constructor
    · intro h2
      split at h2 <;> omega
    · intro h2
      exact absurd h2 h

theorem state_two {te me low ba : Int} {X : List (Int × Int)} : stateL te me low ba X = 2 ↔ passB false te me low ba X = false ∧ passB true te me low ba X = false := by
  unfold stateL
  cases h : passB false te me low ba X <;> cases k : passB true te me low ba X <;> simp

theorem state_bd (te me low ba : Int) (X : List (Int × Int)) : stateL te me low ba X = 1 ∨ stateL te me low ba X = 2 ∨ stateL te me low ba X = 3 := by
  unfold stateL
  split
  · exact .inl rfl
  · split
    · exact .inr (.inr rfl)
    · exact .inr (.inl rfl)

/-- What is sure is so in the end. -/
theorem state_in {te me low ba : Int} {X : List (Int × Int)} {T : List Int} (h : Within X (diag T)) (hx : stateL te me low ba X ≠ 3) : (stateL te me low ba X = 1 ↔ passB false te me low ba (diag T) = true) := by
  constructor
  · intro h1
    exact within_lo h (state_one.1 h1)
  · intro hp
    rcases state_bd te me low ba X with h1 | h2 | h3
    · exact h1
    · have h4 := (state_two.1 h2).2
      rw [← diag_pass true] at hp
      rw [within_hi h hp] at h4
      cases h4
    · exact absurd h3 hx

/-- It stays so. -/
theorem state_up {te me low ba : Int} {X Y : List (Int × Int)} {T : List Int} (h : Within X Y) (k : Within Y (diag T)) (hx : stateL te me low ba X ≠ 3) : stateL te me low ba Y = stateL te me low ba X := by
  rcases state_bd te me low ba X with h1 | h2 | h3
  · rw [h1, state_one]
    exact within_lo h (state_one.1 h1)
  · rw [h2, state_two]
    have h4 := (state_two.1 h2).2
    have h5 : passB true te me low ba Y = false := by
      cases h6 : passB true te me low ba Y with
      | false => rfl
      | true =>
        rw [within_hi h h6] at h4
        cases h4
    refine ⟨?_, h5⟩
    cases h6 : passB false te me low ba Y with
    | false => rfl
    | true =>
      have h7 := within_lo k h6
      rw [← diag_pass true] at h7
      rw [within_hi k h7] at h5
      cases h5
  · exact absurd h3 hx

theorem state_diag (te me low ba : Int) (T : List Int) : stateL te me low ba (diag T) ≠ 3 := by
  unfold stateL
  rw [diag_pass true]
  split
  · decide
  · decide

/-- A test of a lot: what is true, and what the gauge is wrong by. -/
structure V2 where
  a : Int
  b : Int

def encV2 (v : V2) : List Value := [.int .u8 v.a, .int .u8 v.b]

abbrev Row2 := RowOf 2 encV2

def B2 (v : V2) : Prop := (0 ≤ v.a ∧ v.a ≤ 255) ∧ (0 ≤ v.b ∧ v.b ≤ 255)

theorem Row2.get {w : World} {a : Option Addr} {l : List V2} (h : Row2 w a l) {j : Nat} {x : V2} (hx : l[j]? = some x) :
    ∃ b o, a = some ⟨b, o, none⟩ ∧ b < w.heap.size ∧ w.cell? ⟨b, o + j * 2, none⟩ = some (.int .u8 x.a) ∧ w.cell? ⟨b, o + j * 2 + 1, none⟩ = some (.int .u8 x.b) := by
  obtain ⟨b, o, ha, hb, hc⟩ := h.2 j x hx
  exact ⟨b, o, ha, hb, hc 0 _ rfl, hc 1 _ rfl⟩

def lotT (T : List V2) (i : Nat) : V2 := match T[i]? with
  | some v => v
  | none => ⟨100, 0⟩

theorem lotT_bd {T : List V2} (h : ∀ v ∈ T, B2 v) (i : Nat) : B2 (lotT T i) := by
  unfold lotT
  split
  · rename_i v hv
    exact h v (List.mem_of_getElem? hv)
  · exact ⟨⟨by decide, by decide⟩, ⟨by decide, by decide⟩⟩

def lotA (T : List V2) (i : Nat) : Int := (lotT T i).a

def lotR (T : List V2) (off : Int) (i : Nat) : Int := max 0 ((lotT T i).a + (lotT T i).b % (2 * off + 1) - off)

def lotTru (T : List V2) (n : Nat) : List Int := (List.range n).map (lotA T)

def lotRea (T : List V2) (off : Int) (n : Nat) : List Int := (List.range n).map (lotR T off)

theorem lotTru_len (T : List V2) (n : Nat) : (lotTru T n).length = n := by simp [lotTru]

theorem lotRea_len (T : List V2) (off : Int) (n : Nat) : (lotRea T off n).length = n := by simp [lotRea]

theorem lotTru_succ (T : List V2) (n : Nat) : lotTru T (n + 1) = lotTru T n ++ [lotA T n] := by simp [lotTru, List.range_succ]

theorem lotRea_succ (T : List V2) (off : Int) (n : Nat) : lotRea T off (n + 1) = lotRea T off n ++ [lotR T off n] := by simp [lotRea, List.range_succ]

theorem lotA_bd {T : List V2} (h : ∀ v ∈ T, B2 v) (i : Nat) : 0 ≤ lotA T i ∧ lotA T i ≤ 255 := (lotT_bd h i).1

theorem lotR_bd {T : List V2} (h : ∀ v ∈ T, B2 v) {off : Int} (o0 : 0 ≤ off) (o1 : off ≤ 39) (i : Nat) : (0 ≤ lotR T off i ∧ lotR T off i ≤ 294) ∧ lotR T off i - off ≤ lotA T i ∧ lotA T i ≤ lotR T off i + off := by
  obtain ⟨⟨a0, a1⟩, b0, b1⟩ := lotT_bd h i
  have m0 := Int.emod_nonneg (lotT T i).b (b := 2 * off + 1) (by omega)
  have m1 := Int.emod_lt_of_pos (lotT T i).b (b := 2 * off + 1) (by omega)
  unfold lotR lotA
  omega

theorem lotRea_take {T : List V2} {off : Int} {n k i : Nat} (hi : i < n) : ((lotRea T off n).take k)[i]? = if i < k then some (lotR T off i) else none := by
  rw [List.getElem?_take]
  simp [lotRea, hi]

theorem lotRea_mem {T : List V2} (h : ∀ v ∈ T, B2 v) {off : Int} (o0 : 0 ≤ off) (o1 : off ≤ 39) {n : Nat} {r : Int} (hr : r ∈ lotRea T off n) : 0 ≤ r ∧ r ≤ 294 := by
  simp only [lotRea, List.mem_map, List.mem_range] at hr
  obtain ⟨i, _, rfl⟩ := hr
  exact (lotR_bd h o0 o1 i).1

theorem lotTru_mem {T : List V2} (h : ∀ v ∈ T, B2 v) {n : Nat} {r : Int} (hr : r ∈ lotTru T n) : 0 ≤ r ∧ r ≤ 255 := by
  simp only [lotTru, List.mem_map, List.mem_range] at hr
  obtain ⟨i, _, rfl⟩ := hr
  exact lotA_bd h i

theorem diag_tru (T : List V2) (n : Nat) : diag (lotTru T n) = (List.range n).map (fun i => (lotA T i, lotA T i)) := by
  simp [diag, lotTru, Function.comp_def]

theorem tru_within {T : List V2} (h : ∀ v ∈ T, B2 v) {off : Int} (o0 : 0 ≤ off) (o1 : off ≤ 39) (n k : Nat) : Within (truthsL n off ((lotRea T off n).take k)) (diag (lotTru T n)) := by
  rw [diag_tru]
  refine within_map _ (fun i hi => ?_)
  rw [List.mem_range] at hi
  have h1 := lotR_bd h o0 o1 i
  have h2 := lotA_bd h i
  unfold truthAt
  rw [lotRea_take hi]
  by_cases hk : i < k
  · rw [if_pos hk]
    dsimp only
    omega
  · rw [if_neg hk]
    dsimp only
    omega

theorem take_within (n : Nat) (off : Int) (L : List Int) (k : Nat) : Within (truthsL n off (L.take k)) (truthsL n off (L.take (k + 1))) := by
  refine within_map _ (fun i hi => ?_)
  unfold truthAt
  rw [List.getElem?_take, List.getElem?_take]
  by_cases hk : i < k
  · rw [if_pos hk, if_pos (by omega)]
    exact ⟨Int.le_refl _, Int.le_refl _⟩
  · rw [if_neg hk]
    dsimp only
    split <;> dsimp only <;> omega

theorem exact_diag {T : List V2} (h : ∀ v ∈ T, B2 v) (n : Nat) : truthsL n 0 (lotTru T n) = diag (lotTru T n) := by
  rw [diag_tru]
  unfold truthsL
  refine List.map_congr_left (fun i hi => ?_)
  rw [List.mem_range] at hi
  have h2 := lotA_bd h i
  unfold truthAt
  rw [show (lotTru T n)[i]? = some (lotA T i) by simp [lotTru, hi]]
  dsimp only
  rw [Int.max_eq_right (by omega), Int.min_eq_right (by omega)]
  simp

theorem lot_rule {n : Nat} {me lo ba off : Int} {l : List Int} (n1 : 1 ≤ n) (n2 : n ≤ 20) (m0 : 0 ≤ me) (m1 : me ≤ 100000) (l0 : 0 ≤ lo) (l1 : lo ≤ 100000) (b0 : 0 ≤ ba) (b1 : ba ≤ (n : Int)) (o0 : 0 ≤ off) (o1 : off ≤ 1000) (hl : l.length ≤ n) (hB : ∀ r ∈ l, 0 ≤ r ∧ r ≤ 100000) : ruleL (n : Int) me lo ba off l = 0 := by
  have h1 : ruleOk (n : Int) me lo ba = true := by
    simp [ruleOk, inB, in1]
    omega
  have h2 : inB 0 1000 [off] = true := by
    simp [inB, in1]
    omega
  have h3 : ¬ (n : Int) < (l.length : Int) := by omega
  have h4 : inB 0 100000 l = true := by
    simp only [inB, List.all_eq_true]
    intro r hr
    have := hB r hr
    simp [in1]
    omega
  unfold ruleL
  rw [if_neg (by rw [h1]; decide), if_neg (by rw [h2]; decide), if_neg h3, if_neg (by rw [h4]; decide)]

end Go.Proofs.Ytcdilmagcdbogaa

namespace Go.Proofs.Ytcdilmagcdbogaa
set_option linter.unusedVariables false
set_option linter.unusedSimpArgs false
open Go.RowKit

theorem owns_zero {w : World} {base : Nat} {e : TypeId} {size : Nat} {v : Value} {n : Nat} {xs : List Value} (h : w.ownsRow base e size v n xs) : w.ownsRow 0 e size v n xs := by
  obtain ⟨h1, h2⟩ := h
  refine ⟨h1, ?_⟩
  rcases h2 with h2 | ⟨g, cap, cur, hv, _, h3⟩
  · exact .inl h2
  · exact .inr ⟨g, cap, cur, hv, Nat.zero_le _, h3⟩

/-- Two rows that do not lie in one block. -/
def Apart (v u : Value) : Prop := ∀ b, v.ownBlock = some b → u.ownBlock ≠ some b

theorem Apart.symm {v u : Value} (h : Apart v u) : Apart u v := fun b hb hv => h b hv hb

theorem wpList_append_sep {P : Program} (w : World) {ops : Array Oper} {rest : List Oper} {o : Oper} {a : Act} {Q : Exit → Act → World → Prop} (hgd : o.guard = none) (s x : Operand) (t : TypeId)
    (ho : o.op = .call { callee := .builtin .append, args := #[s, x], argTypes := #[t, t] })
    (base : Nat) (e : TypeId) (i : TypeInfo) (z : Value) (size bytes : Nat) (ht : P.underlying t = some (.slice e)) (hi : P.info? e = some i) (hz : i.zero = some z)
    (hsize : i.size = size) (hby : i.bytes = bytes) (hzs : z.cells.size = size) (hsz : 0 < size)
    (v : Value) (n : Nat) (xs : List Value) (hs : a.eval s = v) (hown : w.ownsRow base e size v n xs)
    (ad : Addr) (m c : Nat) (news : List Value) (hx : a.eval x = .slice (some ad) m c) (hl : news.length = m * size) (hnews : ∀ j u, news[j]? = some u → w.cell? (ad.add j) = some u) (h1 : ∀ u ∈ news, u.oneCell' = true)
    (h63 : n + m ≤ maxLen) (hbytes : (n + m) * bytes ≤ 140737488355328) (hbase : base ≤ w.heap.size)
    (u : Value) (k : Nat) (ys : List Value) (hu : w.ownsRow base e size u k ys) (hap : Apart v u)
    (h : ∀ v' w', w'.ownsRow base e size v' (n + m) (xs ++ news) → w.grownBy w' v.ownBlock → w'.ownsRow base e size u k ys → Apart v' u → wpList P ops Q rest (a.put o.dst v') w') : wpList P ops Q (o :: rest) a w := by
  refine wpList_plain hgd fun _ hK => ?_
  obtain ⟨v', w', hr, h2, h3, h4⟩ := run_append_own (P := P) w base t o.type e i z size bytes ht hi hz hsize hby hzs hsz v n xs hown ad m c news hl hnews h1 h63 hbytes hbase
  obtain ⟨v'', w'', hr', _, _, h5⟩ := run_append_new (P := P) w t o.type e i z size bytes ht hi hz hsize hby hzs hsz v n xs (owns_zero hown) ad m c news hl hnews h1 h63 hbytes
  rw [hr] at hr'
  injection hr' with e1 e2
  subst e1
  subst e2
  have hku : w'.ownsRow base e size u k ys := hu.kept h3 (by
    cases hub : u.ownBlock with
    | none => exact .inl rfl
    | some b => exact .inr (fun he => hap b he.symm hub))
  have hap' : Apart v' u := fun b hb hub => by
    rcases (h5 b hb).2 with h6 | h6
    · exact hap b h6 hub
    · have := (hu.lt b hub).2
      omega
  unfold Oper.wp execOp
  simp only [ho, resolve, invoke, builtin, Sem.run_bind, Sem.run_pure, Result.andThen_ok, List.map_toArray, List.map_cons, List.map_nil, hs, hx, hr]
  exact hK _ _ (h v' w' h2 h3 hku hap')

theorem Apart.lit {g k : Nat} {n m c d : Nat} (h : g ≠ k) : Apart (.slice (some ⟨g, 0, none⟩) n c) (.slice (some ⟨k, 0, none⟩) m d) := by
  intro b hb hc
  simp only [Value.ownBlock, Option.some.injEq] at hb hc
  omega

end Go.Proofs.Ytcdilmagcdbogaa

namespace Go.Proofs.Ytcdilmagcdbogaa
set_option linter.unusedVariables false
set_option linter.unusedSimpArgs false
open Go.RowKit

theorem owns_row_cap {α : Type} {enc : α → List Value} {sz : Nat} {w : World} {base : Nat} {e : TypeId} {v : Value} {l : List α} (he : ∀ x, (enc x).length = sz) (hl : l.length ≤ 9223372036854775807) (h : w.ownsRow base e sz v l.length (l.flatMap enc)) :
    ∃ a cap, v = .slice a l.length cap ∧ RowOf sz enc w a l ∧ (a = none → cap = 0) ∧ l.length ≤ cap := by
  obtain ⟨a, cap, hv, hr⟩ := owns_row he hl h
  refine ⟨a, cap, hv, hr, ?_⟩
  rcases h.2 with ⟨hv2, hn⟩ | ⟨b, cap2, cur, hv2, _, _, hc, _⟩
  · rw [hv2] at hv
    injection hv with e1 e2 e3
    exact ⟨fun _ => e3.symm, by omega⟩
  · rw [hv2] at hv
    injection hv with e1 e2 e3
    subst e1
    subst e3
    exact ⟨fun h => (by cases h), hc⟩

set_option maxHeartbeats 400000 in
theorem lints_any (l : List Int) (hl : l.length ≤ 1000) (b off cap : Nat) (w : World) (hr : IRow w (some ⟨b, off, none⟩) l) :
    Calls Try.prog 19 #[.slice (some ⟨b, off, none⟩) l.length cap] w fun e w' => ∃ a' cap', e = .returned (.slice a' l.length cap') ∧ IRow w' a' l ∧ (a' = none → cap' = 0) ∧ l.length ≤ cap' ∧ Gr w w' := by
  obtain ⟨i0, hi, hz0, hz1, hz2⟩ := info_parts infoInt
  have hr1 := hr.grow (Gr.al w (.cells #[] 3))
  have h1 : 0 + l.length ≤ maxLen := by unfold maxLen; omega
  have h2 : (0 + l.length) * 8 ≤ 140737488355328 := by omega
  have hfl := flat_len (enc := encI) (sz := 1) (fun _ => rfl) l
  have hnews := row_news (enc := encI) (sz := 1) (fun _ => rfl) hr1
  have Hfl := Lib.hid hfl
  have Hnews := Lib.hid hnews
  clear hfl hnews
  go_enter Try.func19, Try.ntmps19
  go_wp2_with (at_builtin; refine wpList_append_own _ rfl _ _ 24 rfl w.heap.size 3 i0 (.int .i64 0) 1 8 Try.underlying24 hi hz0 hz1 hz2 rfl (by decide) _ _ _ rfl (owns_empty w _ _) ⟨b, off, none⟩ l.length cap (l.flatMap encI) rfl Hfl.out Hnews.out (one_flat (fun x u hu => by simp [encI] at hu; subst hu; rfl) l) h1 h2 (by simp) ?_; intro v' w1 hown hgrow _)
  obtain ⟨a', cap', hv, hr2, hn2, hc2⟩ := owns_row_cap (enc := encI) (l := l) (fun _ => rfl) (by omega) (by simpa using hown)
  subst hv
  have Hr2 := Lib.hid hr2
  have Hn2 := Lib.hid hn2
  have Hc2 := Lib.hid hc2
  clear hr2 hn2 hown hc2
  go_wp2
  go_ret
  exact ⟨a', ⟨cap', rfl, Hr2.out, Hn2.out, Hc2.out, (Gr.al w _).grown' (owns_empty w _ 1) (Nat.le_refl _) hgrow⟩⟩

theorem diag_app (l : List Int) (x : Int) : diag (l ++ [x]) = diag l ++ [(x, x)] := by simp [diag]

theorem diag_bd {l : List Int} (hB : ∀ x ∈ l, 0 ≤ x ∧ x ≤ 100000) : ∀ x ∈ diag l, TrB x := by
  intro x hx
  simp only [diag, List.mem_map] at hx
  obtain ⟨t, ht, rfl⟩ := hx
  have := hB t ht
  exact ⟨this.1, this.2, this.1, this.2⟩

set_option maxRecDepth 100000 in
set_option maxHeartbeats 1000000 in
theorem lpasses_any (te me lo ba : Int) (l : List Int) (hl : l.length ≤ 1000) (hB : ∀ x ∈ l, 0 ≤ x ∧ x ≤ 100000) (t0 : 0 ≤ te) (t1 : te ≤ 1000) (m0 : 0 ≤ me) (m1 : me ≤ 100000) (a : Option Addr) (cap : Nat) (w : World) (hr : IRow w a l) :
    Calls Try.prog 52 #[.agg #[.int .i64 te, .int .i64 me, .int .i64 lo, .int .i64 ba], .slice a l.length cap] w fun e w' => e = .returned (.bool (passB false te me lo ba (diag l))) ∧ Gr w w' := by
  have gg := Gr.al w (.cells #[.int .i64 te, .int .i64 me, .int .i64 lo, .int .i64 ba] 23)
  have hb := Box.new w [.int .i64 te, .int .i64 me, .int .i64 lo, .int .i64 ba] 23 w.heap.size rfl
  have HB := Lib.hid hb
  have GG := Lib.hid gg
  have HR := Lib.hid (hr.grow gg)
  have q0 : 0 ≤ te * me := Int.mul_nonneg t0 m0
  have q1 : te * me ≤ 1000 * 100000 := Int.mul_le_mul t1 m1 m0 (by omega)
  clear hb gg hr
  go_enter Try.func52, Try.ntmps52
  go_upto_region 2 with fail
  refine wp_abs (fun W => Gr (w.alloc (.cells #[.int .i64 te, .int .i64 me, .int .i64 lo, .int .i64 ba] 23)) W) (Below.refl _ _) ?_
  intro W hW
  go_wp2
  go_loopw [7, 5, 6] (fun t s b wr => Hid (∃ k : Nat, k ≤ l.length ∧ t = .int .i64 k ∧ Gr (w.alloc (.cells #[.int .i64 te, .int .i64 me, .int .i64 lo, .int .i64 ba] 23)) wr ∧ s = .int .i64 (sumS false (diag (l.take k))) ∧ b = .int .i64 (badS false lo (diag (l.take k))))) (fun t _ _ _ => l.length - (intOf t).toNat)
  case atStart => exact Lib.hid ⟨0, Nat.zero_le _, rfl, hW, rfl, rfl⟩
  case round =>
    obtain ⟨k, hk, rfl, gW, rfl, rfl⟩ := hrel.out
    clear hrel
    obtain ⟨x0, x1⟩ := sumS_bd false (diag (l.take k)) (diag_bd (fun x hx => hB x (List.mem_of_mem_take hx)))
    have x2 := badS_0 false lo (diag (l.take k))
    have x3 := badS_len false lo (diag (l.take k))
    have x4 : (diag (l.take k)).length = min k l.length := by simp [diag]
    obtain ⟨p0, p1, p2, p3⟩ := (HB.out.keep gW).c4'
    by_cases hlt : k < l.length
    · obtain ⟨x, hx⟩ : ∃ x, l[k]? = some x := ⟨l[k], by simp [hlt]⟩
      obtain ⟨y0, y1⟩ := hB x (List.mem_of_getElem? hx)
      obtain ⟨b1, o1, rfl, h1, cc⟩ := IRow.get (HR.out.grow gW) hx
      have hs : sumS false (diag (l.take (k + 1))) = sumS false (diag (l.take k)) + x := by
        rw [List.take_add_one, hx, Option.toList_some, diag_app, sumS_app]
        simp
      have hd : badS false lo (diag (l.take (k + 1))) = badS false lo (diag (l.take k)) + if x < lo then 1 else 0 := by
        rw [List.take_add_one, hx, Option.toList_some, diag_app, badS_app]
        simp
      rw [x4] at x1 x3
      have HS := Lib.hid hs
      have HD := Lib.hid hd
      generalize sumS false (diag (l.take k)) = S at *
      generalize badS false lo (diag (l.take k)) = B at *
      clear hs hd hx x4
      by_cases hlo : x < lo
      · go_upto_region 6 with fail
        go_quiet (fail)
        go_wp2
        go_roundw
        case rel => exact Lib.hid ⟨k + 1, by omega, by go_num, gW.drewN _, by rw [HS.out], by rw [HD.out, if_pos hlo]⟩
        case measure => simp [intOf]; omega
      · go_upto_region 6 with fail
        go_quiet (fail)
        go_wp2
        go_roundw
        case rel => exact Lib.hid ⟨k + 1, by omega, by go_num, gW.drewN _, by rw [HS.out], by rw [HD.out, if_neg hlo, Int.add_zero]⟩
        case measure => simp [intOf]; omega
    · obtain rfl : k = l.length := by omega
      rw [List.take_length] at *
      have E0 : passB false te me lo ba (diag l) = (decide (badS false lo (diag l) ≤ ba) && decide (te * me ≤ sumS false (diag l))) := rfl
      generalize sumS false (diag l) = S at *
      generalize badS false lo (diag l) = B at *
      by_cases hm : te * me ≤ S
      · have E := Lib.hid (E0.trans (show (decide (B ≤ ba) && decide (te * me ≤ S)) = decide (B ≤ ba) by simp [hm]))
        clear E0
        go_wp2
        go_ret
        exact ⟨ret_bool E.out.symm, GG.out.tr gW⟩
      · have E := Lib.hid (E0.trans (show (decide (B ≤ ba) && decide (te * me ≤ S)) = false by simp [hm]))
        have hm' : decide (te * me ≤ S) = false := by simpa using hm
        clear E0
        go_wp2
        go_ret
        exact ⟨ret_bool E.out.symm, GG.out.tr gW⟩

end Go.Proofs.Ytcdilmagcdbogaa

namespace Go.Proofs.Ytcdilmagcdbogaa
set_option linter.unusedVariables false
set_option linter.unusedSimpArgs false
open Go.RowKit

set_option maxRecDepth 100000 in
set_option maxHeartbeats 1000000 in
theorem refReadings_any (l : List Int) (d : Bool) (hd : inB 0 100000 l = d) (a : Option Addr) (cap : Nat) (w : World) (hr : IRow w a l) :
    Calls Try.prog 28 #[.slice a l.length cap] w fun e w' => e = .returned (.bool d) ∧ Gr w w' := by
  have hl0 := hr.1
  have HD := Lib.hid hd
  clear hd
  go_enter Try.func28, Try.ntmps28
  go_wp2
  go_loopw [3] (fun i wr => Hid (∃ k : Nat, k ≤ l.length ∧ i = .int .i64 k ∧ Gr w wr ∧ inB 0 100000 (l.take k) = true)) (fun i _ => l.length - (intOf i).toNat)
  case atStart => exact Lib.hid ⟨0, Nat.zero_le _, rfl, Below.refl _ _, by simp [inB]⟩
  case round =>
    obtain ⟨k, hk, rfl, gW, ht⟩ := hrel.out
    clear hrel
    by_cases hlt : k < l.length
    · obtain ⟨x, hx⟩ : ∃ x, l[k]? = some x := ⟨l[k], by simp [hlt]⟩
      obtain ⟨b1, o1, rfl, h1, cc⟩ := IRow.get (hr.grow gW) hx
      cases c : in1 0 100000 x with
      | true =>
        have hn : inB 0 100000 (l.take (k + 1)) = true := by
          rw [List.take_add_one, hx, Option.toList_some]
          unfold inB at ht ⊢
          rw [List.all_append, ht]
          simp [c]
        have HN := Lib.hid hn
        clear hn ht hx
        go_wp2_with (go_at_call 27; refine (refIn_any x 0 100000 true c _).mono ?_; rintro e w1 ⟨rfl, g1⟩)
        go_roundw
        case rel => exact Lib.hid ⟨k + 1, by omega, by go_num, gW.tr g1, HN.out⟩
        case measure => simp [intOf]; omega
      | false =>
        have E := Lib.hid (show d = false by
          rw [← HD.out]
          cases h : inB 0 100000 l with
          | false => rfl
          | true =>
            unfold inB at h
            rw [List.all_eq_true] at h
            rw [h x (List.mem_of_getElem? hx)] at c
            cases c)
        clear ht hx
        go_wp2_with (go_at_call 27; refine (refIn_any x 0 100000 false c _).mono ?_; rintro e w1 ⟨rfl, g1⟩)
        go_ret
        exact ⟨ret_bool E.out.symm, gW.tr g1⟩
    · obtain rfl : k = l.length := by omega
      rw [List.take_length] at ht
      have E := Lib.hid (show d = true by rw [← HD.out, ht])
      clear ht
      go_wp2
      go_ret
      exact ⟨ret_bool E.out.symm, gW⟩


set_option maxRecDepth 100000 in
set_option maxHeartbeats 1000000 in
theorem refPasses_any (te me lo ba : Int) (l : List Int) (hl : l.length ≤ 1000) (hB : ∀ x ∈ l, 0 ≤ x ∧ x ≤ 100000) (t0 : 0 ≤ te) (t1 : te ≤ 1000) (m0 : 0 ≤ me) (m1 : me ≤ 100000) (a : Option Addr) (cap : Nat) (w : World) (hr : IRow w a l) :
    Calls Try.prog 78 #[.agg #[.int .i64 te, .int .i64 me, .int .i64 lo, .int .i64 ba], .slice a l.length cap] w fun e w' => e = .returned (.bool (passB false te me lo ba (diag l))) ∧ Gr w w' := by
  have gg := Gr.al w (.cells #[.int .i64 te, .int .i64 me, .int .i64 lo, .int .i64 ba] 23)
  have hb := Box.new w [.int .i64 te, .int .i64 me, .int .i64 lo, .int .i64 ba] 23 w.heap.size rfl
  have HB := Lib.hid hb
  have GG := Lib.hid gg
  have HR := Lib.hid (hr.grow gg)
  have q0 : 0 ≤ te * me := Int.mul_nonneg t0 m0
  have q1 : te * me ≤ 1000 * 100000 := Int.mul_le_mul t1 m1 m0 (by omega)
  clear hb gg hr
  go_enter Try.func78, Try.ntmps78
  go_upto_region 2 with fail
  refine wp_abs (fun W => Gr (w.alloc (.cells #[.int .i64 te, .int .i64 me, .int .i64 lo, .int .i64 ba] 23)) W) (Below.refl _ _) ?_
  intro W hW
  go_wp2
  go_loopw [7, 5, 6] (fun t s b wr => Hid (∃ k : Nat, k ≤ l.length ∧ t = .int .i64 k ∧ Gr (w.alloc (.cells #[.int .i64 te, .int .i64 me, .int .i64 lo, .int .i64 ba] 23)) wr ∧ s = .int .i64 (sumS false (diag (l.take k))) ∧ b = .int .i64 (badS false lo (diag (l.take k))))) (fun t _ _ _ => l.length - (intOf t).toNat)
  case atStart => exact Lib.hid ⟨0, Nat.zero_le _, rfl, hW, rfl, rfl⟩
  case round =>
    obtain ⟨k, hk, rfl, gW, rfl, rfl⟩ := hrel.out
    clear hrel
    obtain ⟨x0, x1⟩ := sumS_bd false (diag (l.take k)) (diag_bd (fun x hx => hB x (List.mem_of_mem_take hx)))
    have x2 := badS_0 false lo (diag (l.take k))
    have x3 := badS_len false lo (diag (l.take k))
    have x4 : (diag (l.take k)).length = min k l.length := by simp [diag]
    obtain ⟨p0, p1, p2, p3⟩ := (HB.out.keep gW).c4'
    by_cases hlt : k < l.length
    · obtain ⟨x, hx⟩ : ∃ x, l[k]? = some x := ⟨l[k], by simp [hlt]⟩
      obtain ⟨y0, y1⟩ := hB x (List.mem_of_getElem? hx)
      obtain ⟨b1, o1, rfl, h1, cc⟩ := IRow.get (HR.out.grow gW) hx
      have hs : sumS false (diag (l.take (k + 1))) = sumS false (diag (l.take k)) + x := by
        rw [List.take_add_one, hx, Option.toList_some, diag_app, sumS_app]
        simp
      have hd : badS false lo (diag (l.take (k + 1))) = badS false lo (diag (l.take k)) + if x < lo then 1 else 0 := by
        rw [List.take_add_one, hx, Option.toList_some, diag_app, badS_app]
        simp
      rw [x4] at x1 x3
      have HS := Lib.hid hs
      have HD := Lib.hid hd
      generalize sumS false (diag (l.take k)) = S at *
      generalize badS false lo (diag (l.take k)) = B at *
      clear hs hd hx x4
      by_cases hlo : x < lo
      · go_upto_region 6 with fail
        go_quiet (fail)
        go_wp2
        go_roundw
        case rel => exact Lib.hid ⟨k + 1, by omega, by go_num, gW.drewN _, by rw [HS.out], by rw [HD.out, if_pos hlo]⟩
        case measure => simp [intOf]; omega
      · go_upto_region 6 with fail
        go_quiet (fail)
        go_wp2
        go_roundw
        case rel => exact Lib.hid ⟨k + 1, by omega, by go_num, gW.drewN _, by rw [HS.out], by rw [HD.out, if_neg hlo, Int.add_zero]⟩
        case measure => simp [intOf]; omega
    · obtain rfl : k = l.length := by omega
      rw [List.take_length] at *
      have E0 : passB false te me lo ba (diag l) = (decide (badS false lo (diag l) ≤ ba) && decide (te * me ≤ sumS false (diag l))) := rfl
      generalize sumS false (diag l) = S at *
      generalize badS false lo (diag l) = B at *
      by_cases hm : te * me ≤ S
      · have E := Lib.hid (E0.trans (show (decide (B ≤ ba) && decide (te * me ≤ S)) = decide (B ≤ ba) by simp [hm]))
        clear E0
        go_wp2
        go_ret
        exact ⟨ret_bool E.out.symm, GG.out.tr gW⟩
      · have E := Lib.hid (E0.trans (show (decide (B ≤ ba) && decide (te * me ≤ S)) = false by simp [hm]))
        have hm' : decide (te * me ≤ S) = false := by simpa using hm
        clear E0
        go_wp2
        go_ret
        exact ⟨ret_bool E.out.symm, GG.out.tr gW⟩

set_option maxRecDepth 100000 in
set_option maxHeartbeats 2000000 in
theorem refRule_any (te me lo ba off : Int) (l : List Int) (R : Int) (hR : ruleL te me lo ba off l = R) (a : Option Addr) (cap : Nat) (w : World) (hr : IRow w a l) :
    Calls Try.prog 23 #[.agg #[.int .i64 te, .int .i64 me, .int .i64 lo, .int .i64 ba], .slice a l.length cap, .int .i64 off] w fun e w' => e = .returned (.int .i64 R) ∧ Gr w w' := by
  have gg := Gr.al w (.cells #[.int .i64 te, .int .i64 me, .int .i64 lo, .int .i64 ba] 23)
  have hb := Box.new w [.int .i64 te, .int .i64 me, .int .i64 lo, .int .i64 ba] 23 w.heap.size rfl
  obtain ⟨q0, q1, q2, q3⟩ := hb.c4'
  have r1 := hr.grow gg
  have tok0 : True := trivial
  have tok1 : True := trivial
  have tok2 : True := trivial
  have tok3 : True := trivial
  have hok : ruleOk te me lo ba = (in1 1 20 te && in1 0 100000 me && in1 0 100000 lo && in1 0 te ba) := by simp [ruleOk, inB, Bool.and_assoc]
  have hof : inB 0 1000 [off] = in1 0 1000 off := by simp [inB]
  unfold ruleL at hR
  rw [hok, hof] at hR
  clear hok hof hr
  cases c0 : in1 1 20 te with
  | false =>
    obtain rfl : R = 2 := by rw [← hR]; simp [c0]
    clear hR
    go_enter Try.func23, Try.ntmps23
    go_wp2_with (first
      | (have _t := tok0; clear tok0 _t; go_at_call 27; refine (refIn_any te 1 20 _ c0 _).mono ?_; rintro e w1 ⟨rfl, hx⟩; replace gg := gg.tr hx; replace hb := hb.keep hx; replace r1 := r1.grow hx; clear hx q0 q1 q2 q3; obtain ⟨q0, q1, q2, q3⟩ := hb.c4'))
    go_ret
    exact ⟨rfl, gg⟩
  | true =>
    cases c1 : in1 0 100000 me with
    | false =>
      obtain rfl : R = 2 := by rw [← hR]; simp [c0, c1]
      clear hR
      go_enter Try.func23, Try.ntmps23
      go_wp2_with (first
        | (have _t := tok0; clear tok0 _t; go_at_call 27; refine (refIn_any te 1 20 _ c0 _).mono ?_; rintro e w1 ⟨rfl, hx⟩; replace gg := gg.tr hx; replace hb := hb.keep hx; replace r1 := r1.grow hx; clear hx q0 q1 q2 q3; obtain ⟨q0, q1, q2, q3⟩ := hb.c4')
        | (have _t := tok1; clear tok1 _t; go_at_call 27; refine (refIn_any me 0 100000 _ c1 _).mono ?_; rintro e w1 ⟨rfl, hx⟩; replace gg := gg.tr hx; replace hb := hb.keep hx; replace r1 := r1.grow hx; clear hx q0 q1 q2 q3; obtain ⟨q0, q1, q2, q3⟩ := hb.c4'))
      go_ret
      exact ⟨rfl, gg⟩
    | true =>
      cases c2 : in1 0 100000 lo with
      | false =>
        obtain rfl : R = 2 := by rw [← hR]; simp [c0, c1, c2]
        clear hR
        go_enter Try.func23, Try.ntmps23
        go_wp2_with (first
          | (have _t := tok0; clear tok0 _t; go_at_call 27; refine (refIn_any te 1 20 _ c0 _).mono ?_; rintro e w1 ⟨rfl, hx⟩; replace gg := gg.tr hx; replace hb := hb.keep hx; replace r1 := r1.grow hx; clear hx q0 q1 q2 q3; obtain ⟨q0, q1, q2, q3⟩ := hb.c4')
          | (have _t := tok1; clear tok1 _t; go_at_call 27; refine (refIn_any me 0 100000 _ c1 _).mono ?_; rintro e w1 ⟨rfl, hx⟩; replace gg := gg.tr hx; replace hb := hb.keep hx; replace r1 := r1.grow hx; clear hx q0 q1 q2 q3; obtain ⟨q0, q1, q2, q3⟩ := hb.c4')
          | (have _t := tok2; clear tok2 _t; go_at_call 27; refine (refIn_any lo 0 100000 _ c2 _).mono ?_; rintro e w1 ⟨rfl, hx⟩; replace gg := gg.tr hx; replace hb := hb.keep hx; replace r1 := r1.grow hx; clear hx q0 q1 q2 q3; obtain ⟨q0, q1, q2, q3⟩ := hb.c4'))
        go_ret
        exact ⟨rfl, gg⟩
      | true =>
        cases c3 : in1 0 te ba with
        | false =>
          obtain rfl : R = 2 := by rw [← hR]; simp [c0, c1, c2, c3]
          clear hR
          go_enter Try.func23, Try.ntmps23
          go_wp2_with (first
            | (have _t := tok0; clear tok0 _t; go_at_call 27; refine (refIn_any te 1 20 _ c0 _).mono ?_; rintro e w1 ⟨rfl, hx⟩; replace gg := gg.tr hx; replace hb := hb.keep hx; replace r1 := r1.grow hx; clear hx q0 q1 q2 q3; obtain ⟨q0, q1, q2, q3⟩ := hb.c4')
            | (have _t := tok1; clear tok1 _t; go_at_call 27; refine (refIn_any me 0 100000 _ c1 _).mono ?_; rintro e w1 ⟨rfl, hx⟩; replace gg := gg.tr hx; replace hb := hb.keep hx; replace r1 := r1.grow hx; clear hx q0 q1 q2 q3; obtain ⟨q0, q1, q2, q3⟩ := hb.c4')
            | (have _t := tok2; clear tok2 _t; go_at_call 27; refine (refIn_any lo 0 100000 _ c2 _).mono ?_; rintro e w1 ⟨rfl, hx⟩; replace gg := gg.tr hx; replace hb := hb.keep hx; replace r1 := r1.grow hx; clear hx q0 q1 q2 q3; obtain ⟨q0, q1, q2, q3⟩ := hb.c4')
            | (have _t := tok3; clear tok3 _t; go_at_call 27; refine (refIn_any ba 0 te _ c3 _).mono ?_; rintro e w1 ⟨rfl, hx⟩; replace gg := gg.tr hx; replace hb := hb.keep hx; replace r1 := r1.grow hx; clear hx q0 q1 q2 q3; obtain ⟨q0, q1, q2, q3⟩ := hb.c4'))
          go_ret
          exact ⟨rfl, gg⟩
        | true =>
          cases c4 : in1 0 1000 off with
          | false =>
            obtain rfl : R = 3 := by rw [← hR]; simp [c0, c1, c2, c3, c4]
            clear hR
            go_enter Try.func23, Try.ntmps23
            go_wp2_with (first
              | (have _t := tok0; clear tok0 _t; go_at_call 27; refine (refIn_any te 1 20 _ c0 _).mono ?_; rintro e w1 ⟨rfl, hx⟩; replace gg := gg.tr hx; replace hb := hb.keep hx; replace r1 := r1.grow hx; clear hx q0 q1 q2 q3; obtain ⟨q0, q1, q2, q3⟩ := hb.c4')
              | (have _t := tok1; clear tok1 _t; go_at_call 27; refine (refIn_any me 0 100000 _ c1 _).mono ?_; rintro e w1 ⟨rfl, hx⟩; replace gg := gg.tr hx; replace hb := hb.keep hx; replace r1 := r1.grow hx; clear hx q0 q1 q2 q3; obtain ⟨q0, q1, q2, q3⟩ := hb.c4')
              | (have _t := tok2; clear tok2 _t; go_at_call 27; refine (refIn_any lo 0 100000 _ c2 _).mono ?_; rintro e w1 ⟨rfl, hx⟩; replace gg := gg.tr hx; replace hb := hb.keep hx; replace r1 := r1.grow hx; clear hx q0 q1 q2 q3; obtain ⟨q0, q1, q2, q3⟩ := hb.c4')
              | (have _t := tok3; clear tok3 _t; go_at_call 27; refine (refIn_any ba 0 te _ c3 _).mono ?_; rintro e w1 ⟨rfl, hx⟩; replace gg := gg.tr hx; replace hb := hb.keep hx; replace r1 := r1.grow hx; clear hx q0 q1 q2 q3; obtain ⟨q0, q1, q2, q3⟩ := hb.c4')
              | (go_at_call 27; refine (refIn_any off 0 1000 _ c4 _).mono ?_; rintro e w1 ⟨rfl, hx⟩; replace gg := gg.tr hx; replace hb := hb.keep hx; replace r1 := r1.grow hx; clear hx q0 q1 q2 q3; obtain ⟨q0, q1, q2, q3⟩ := hb.c4'))
            go_ret
            exact ⟨rfl, gg⟩
          | true =>
            by_cases c5 : te < (l.length : Int)
            · have c5d : decide (te < (l.length : Int)) = true := by simpa using c5
              obtain rfl : R = 5 := by rw [← hR]; simp [c0, c1, c2, c3, c4, c5]
              clear hR
              go_enter Try.func23, Try.ntmps23
              go_wp2_with (first
                | (have _t := tok0; clear tok0 _t; go_at_call 27; refine (refIn_any te 1 20 _ c0 _).mono ?_; rintro e w1 ⟨rfl, hx⟩; replace gg := gg.tr hx; replace hb := hb.keep hx; replace r1 := r1.grow hx; clear hx q0 q1 q2 q3; obtain ⟨q0, q1, q2, q3⟩ := hb.c4')
                | (have _t := tok1; clear tok1 _t; go_at_call 27; refine (refIn_any me 0 100000 _ c1 _).mono ?_; rintro e w1 ⟨rfl, hx⟩; replace gg := gg.tr hx; replace hb := hb.keep hx; replace r1 := r1.grow hx; clear hx q0 q1 q2 q3; obtain ⟨q0, q1, q2, q3⟩ := hb.c4')
                | (have _t := tok2; clear tok2 _t; go_at_call 27; refine (refIn_any lo 0 100000 _ c2 _).mono ?_; rintro e w1 ⟨rfl, hx⟩; replace gg := gg.tr hx; replace hb := hb.keep hx; replace r1 := r1.grow hx; clear hx q0 q1 q2 q3; obtain ⟨q0, q1, q2, q3⟩ := hb.c4')
                | (have _t := tok3; clear tok3 _t; go_at_call 27; refine (refIn_any ba 0 te _ c3 _).mono ?_; rintro e w1 ⟨rfl, hx⟩; replace gg := gg.tr hx; replace hb := hb.keep hx; replace r1 := r1.grow hx; clear hx q0 q1 q2 q3; obtain ⟨q0, q1, q2, q3⟩ := hb.c4')
                | (go_at_call 27; refine (refIn_any off 0 1000 _ c4 _).mono ?_; rintro e w1 ⟨rfl, hx⟩; replace gg := gg.tr hx; replace hb := hb.keep hx; replace r1 := r1.grow hx; clear hx q0 q1 q2 q3; obtain ⟨q0, q1, q2, q3⟩ := hb.c4'))
              go_ret
              exact ⟨rfl, gg⟩
            · have c5d : decide (te < (l.length : Int)) = false := by simpa using c5
              cases c6 : inB 0 100000 l with
              | false =>
                obtain rfl : R = 4 := by rw [← hR]; simp [c0, c1, c2, c3, c4, c5, c6]
                clear hR
                go_enter Try.func23, Try.ntmps23
                go_wp2_with (first
                  | (have _t := tok0; clear tok0 _t; go_at_call 27; refine (refIn_any te 1 20 _ c0 _).mono ?_; rintro e w1 ⟨rfl, hx⟩; replace gg := gg.tr hx; replace hb := hb.keep hx; replace r1 := r1.grow hx; clear hx q0 q1 q2 q3; obtain ⟨q0, q1, q2, q3⟩ := hb.c4')
                  | (have _t := tok1; clear tok1 _t; go_at_call 27; refine (refIn_any me 0 100000 _ c1 _).mono ?_; rintro e w1 ⟨rfl, hx⟩; replace gg := gg.tr hx; replace hb := hb.keep hx; replace r1 := r1.grow hx; clear hx q0 q1 q2 q3; obtain ⟨q0, q1, q2, q3⟩ := hb.c4')
                  | (have _t := tok2; clear tok2 _t; go_at_call 27; refine (refIn_any lo 0 100000 _ c2 _).mono ?_; rintro e w1 ⟨rfl, hx⟩; replace gg := gg.tr hx; replace hb := hb.keep hx; replace r1 := r1.grow hx; clear hx q0 q1 q2 q3; obtain ⟨q0, q1, q2, q3⟩ := hb.c4')
                  | (have _t := tok3; clear tok3 _t; go_at_call 27; refine (refIn_any ba 0 te _ c3 _).mono ?_; rintro e w1 ⟨rfl, hx⟩; replace gg := gg.tr hx; replace hb := hb.keep hx; replace r1 := r1.grow hx; clear hx q0 q1 q2 q3; obtain ⟨q0, q1, q2, q3⟩ := hb.c4')
                  | (go_at_call 27; refine (refIn_any off 0 1000 _ c4 _).mono ?_; rintro e w1 ⟨rfl, hx⟩; replace gg := gg.tr hx; replace hb := hb.keep hx; replace r1 := r1.grow hx; clear hx q0 q1 q2 q3; obtain ⟨q0, q1, q2, q3⟩ := hb.c4')
                  | (go_at_call 28; refine (refReadings_any l _ c6 a cap _ r1).mono ?_; rintro e w2 ⟨rfl, hx⟩; replace gg := gg.tr hx))
                go_ret
                exact ⟨rfl, gg⟩
              | true =>
                obtain rfl : R = 0 := by rw [← hR]; simp [c0, c1, c2, c3, c4, c5, c6]
                clear hR
                go_enter Try.func23, Try.ntmps23
                go_wp2_with (first
                  | (have _t := tok0; clear tok0 _t; go_at_call 27; refine (refIn_any te 1 20 _ c0 _).mono ?_; rintro e w1 ⟨rfl, hx⟩; replace gg := gg.tr hx; replace hb := hb.keep hx; replace r1 := r1.grow hx; clear hx q0 q1 q2 q3; obtain ⟨q0, q1, q2, q3⟩ := hb.c4')
                  | (have _t := tok1; clear tok1 _t; go_at_call 27; refine (refIn_any me 0 100000 _ c1 _).mono ?_; rintro e w1 ⟨rfl, hx⟩; replace gg := gg.tr hx; replace hb := hb.keep hx; replace r1 := r1.grow hx; clear hx q0 q1 q2 q3; obtain ⟨q0, q1, q2, q3⟩ := hb.c4')
                  | (have _t := tok2; clear tok2 _t; go_at_call 27; refine (refIn_any lo 0 100000 _ c2 _).mono ?_; rintro e w1 ⟨rfl, hx⟩; replace gg := gg.tr hx; replace hb := hb.keep hx; replace r1 := r1.grow hx; clear hx q0 q1 q2 q3; obtain ⟨q0, q1, q2, q3⟩ := hb.c4')
                  | (have _t := tok3; clear tok3 _t; go_at_call 27; refine (refIn_any ba 0 te _ c3 _).mono ?_; rintro e w1 ⟨rfl, hx⟩; replace gg := gg.tr hx; replace hb := hb.keep hx; replace r1 := r1.grow hx; clear hx q0 q1 q2 q3; obtain ⟨q0, q1, q2, q3⟩ := hb.c4')
                  | (go_at_call 27; refine (refIn_any off 0 1000 _ c4 _).mono ?_; rintro e w1 ⟨rfl, hx⟩; replace gg := gg.tr hx; replace hb := hb.keep hx; replace r1 := r1.grow hx; clear hx q0 q1 q2 q3; obtain ⟨q0, q1, q2, q3⟩ := hb.c4')
                  | (go_at_call 28; refine (refReadings_any l _ c6 a cap _ r1).mono ?_; rintro e w2 ⟨rfl, hx⟩; replace gg := gg.tr hx))
                go_ret
                exact ⟨rfl, gg⟩

set_option maxRecDepth 100000 in
theorem decide_err (te me lo ba off : Int) (l : List Int) (R : Int) (hR : ruleL te me lo ba off l = R) (h0 : R ≠ 0) (a : Option Addr) (cap : Nat) (w : World) (hr : IRow w a l) :
    Calls Try.prog 21 #[.agg #[.int .i64 te, .int .i64 me, .int .i64 lo, .int .i64 ba], .slice a l.length cap, .int .i64 off] w fun e w' => e = .returned (.tuple #[.int .i64 0, .int .i64 R]) ∧ Gr w w' := by
  have hc : ∀ W, Gr w W → Calls Try.prog 20 #[.agg #[.int .i64 te, .int .i64 me, .int .i64 lo, .int .i64 ba], .slice a l.length cap, .int .i64 off] W fun e w' => e = .returned (.int .i64 R) ∧ Gr W w' := fun W g => by
    have := rule_any te me lo ba off l a cap W (hr.grow g)
    rw [hR] at this
    exact this
  have HC := Lib.hid hc
  have hb := Box.new w [.int .i64 te, .int .i64 me, .int .i64 lo, .int .i64 ba] 23 w.heap.size rfl
  have gg := Gr.al w (.cells #[.int .i64 te, .int .i64 me, .int .i64 lo, .int .i64 ba] 23)
  obtain ⟨q0, q1, q2, q3⟩ := hb.c4'
  have hn : (R != 0) = true := by simpa using h0
  clear hR hc h0
  go_enter Try.func21, Try.ntmps21
  go_wp2_with (go_at_call 20; refine (HC.out _ gg).mono ?_; rintro e w1 ⟨rfl, g1⟩)
  go_ret2
  exact ⟨rfl, gg.tr g1⟩

set_option maxRecDepth 100000 in
theorem need_err (te me lo ba off : Int) (l : List Int) (R : Int) (hR : ruleL te me lo ba off l = R) (h0 : R ≠ 0) (a : Option Addr) (cap : Nat) (w : World) (hr : IRow w a l) :
    Calls Try.prog 22 #[.agg #[.int .i64 te, .int .i64 me, .int .i64 lo, .int .i64 ba], .slice a l.length cap, .int .i64 off] w fun e w' => e = .returned (.tuple #[.int .i64 0, .int .i64 0, .int .i64 R]) ∧ Gr w w' := by
  have hc : ∀ W, Gr w W → Calls Try.prog 20 #[.agg #[.int .i64 te, .int .i64 me, .int .i64 lo, .int .i64 ba], .slice a l.length cap, .int .i64 off] W fun e w' => e = .returned (.int .i64 R) ∧ Gr W w' := fun W g => by
    have := rule_any te me lo ba off l a cap W (hr.grow g)
    rw [hR] at this
    exact this
  have HC := Lib.hid hc
  have hb := Box.new w [.int .i64 te, .int .i64 me, .int .i64 lo, .int .i64 ba] 23 w.heap.size rfl
  have gg := Gr.al w (.cells #[.int .i64 te, .int .i64 me, .int .i64 lo, .int .i64 ba] 23)
  obtain ⟨q0, q1, q2, q3⟩ := hb.c4'
  have hn : (R != 0) = true := by simpa using h0
  clear hR hc h0
  go_enter Try.func22, Try.ntmps22
  go_wp2_with (go_at_call 20; refine (HC.out _ gg).mono ?_; rintro e w1 ⟨rfl, g1⟩)
  exact bodyPost_ret (v := .tuple #[.int .i64 0, .int .i64 0, .int .i64 R]) (by simp [results, Try.results22, go_sem]) rfl ⟨rfl, gg.tr g1⟩

end Go.Proofs.Ytcdilmagcdbogaa

namespace Go.Proofs.Ytcdilmagcdbogaa
set_option linter.unusedVariables false
set_option linter.unusedSimpArgs false
open Go.RowKit

/-- What is said of a value stays while blocks of Z alone turn. -/
def StaysZ (Z : Nat → Prop) (F : World → Value → Prop) : Prop := ∀ v v' x, Kx Z v v' → F v x → F v' x

theorem StaysZ.eq (Z : Nat → Prop) (u : Value) : StaysZ Z (fun _ x => x = u) := fun _ _ _ _ h => h

theorem staysZ_nil {Z : Nat → Prop} : ∀ (i : Nat) (F : World → Value → Prop), ([] : List (World → Value → Prop))[i]? = some F → StaysZ Z F := fun i F h => by simp at h

theorem staysZ_cons {Z : Nat → Prop} {G : World → Value → Prop} {Fs : List (World → Value → Prop)} (h : StaysZ Z G) (hs : ∀ (i : Nat) (F : World → Value → Prop), Fs[i]? = some F → StaysZ Z F) : ∀ (i : Nat) (F : World → Value → Prop), (G :: Fs)[i]? = some F → StaysZ Z F
  | 0, F, e => by simp at e; subst e; exact h
  | i + 1, F, e => hs i F (by simpa using e)

theorem getD_hun {listed : Array Bool} {i : Nat} (h : listed.getD i true = false) : listed.getD i false = false ∧ (listed.setIfInBounds i true).getD i false = true := by
  by_cases hi : i < listed.size
  · simp [hi] at h ⊢
    exact h
  · simp [hi] at h

theorem wp_region_two {P : Program} {Q : Exit → Act → World → Prop} {id : Nat} {W : World} {l : List Oper} (Z : Nat → Prop) (n p q : Nat) (ds : List (Nat × Nat)) (fr : (Nat → Value) → Act) (x0 : Nat → Value) (Fs : List (World → Value → Prop)) (C : World → Prop) (S0 : World → Prop) (S1 : World → Value → Prop) (S2 : World → Value → Value → Prop) {a : Act} (ha : a = fr x0) (hm : P.follows .mixedOrders = true)
    (hB : (decide (n < l.toArray.size) && Region.sinkB .any l.toArray n && Region.chainB .any l.toArray n && minB .any l.toArray n && Region.seqB .any l.toArray (l.toArray.size - n) n (Array.replicate n true ++ Array.replicate (l.toArray.size - n) false)) = true)
    (hD : depB .any l.toArray ds = true) (hpq : (q, p) ∈ ds) (hne : p ≠ q) (hpn : p < n) (hqn : q < n)
    (hst : ∀ (i : Nat) (F : World → Value → Prop), Fs[i]? = some F → StaysZ Z F) (hC : ∀ v v', Kx Z v v' → C v → C v')
    (h0 : ∀ v v', Gr v v' → S0 v → S0 v') (h1 : ∀ v v' x, Gr v v' → S1 v x → S1 v' x) (h2 : ∀ v v' x y, Gr v v' → S2 v x y → S2 v' x y)
    (hC0 : C W.drew) (hS0 : S0 W.drew)
    (hstep : ∀ i, i < n → i ≠ p → i ≠ q → ∀ x v, C v → (∀ (j : Nat) (F : World → Value → Prop), (i, j) ∈ ds → j ≠ p → j ≠ q → Fs[j]? = some F → F v (x j)) → ∀ K : Act → World → Prop, (∀ u v', Gr v v' → (∀ F : World → Value → Prop, Fs[i]? = some F → F v' u) → K (fr (upd x i u)) v') → wpOp P l.toArray Q i K (fr x) v)
    (hp : ∀ x v, C v → S0 v → (∀ (j : Nat) (F : World → Value → Prop), (p, j) ∈ ds → j ≠ p → j ≠ q → Fs[j]? = some F → F v (x j)) → ∀ K : Act → World → Prop, (∀ u v', Kx Z v v' → S1 v' u → K (fr (upd x p u)) v') → wpOp P l.toArray Q p K (fr x) v)
    (hq : ∀ x v, C v → S1 v (x p) → (∀ (j : Nat) (F : World → Value → Prop), (q, j) ∈ ds → j ≠ p → j ≠ q → Fs[j]? = some F → F v (x j)) → ∀ K : Act → World → Prop, (∀ u v', Kx Z v v' → S2 v' (x p) u → K (fr (upd x q u)) v') → wpOp P l.toArray Q q K (fr x) v)
    (hend : ∀ x v, C v → S2 v (x p) (x q) → (∀ (j : Nat) (F : World → Value → Prop), j < n → j ≠ p → j ≠ q → Fs[j]? = some F → F v (x j)) → wpList P l.toArray Q (l.drop n) (fr x) v) : (Code.region id l.toArray true).wp P Q a W := by
  subst ha
  refine wp_region_inv' n ds (fun _ listed a v => ∃ x, a = fr x ∧ C v ∧ (∀ (j : Nat) (F : World → Value → Prop), j ≠ p → j ≠ q → Fs[j]? = some F → listed.getD j false = true → F v (x j)) ∧ (listed.getD q false = true → listed.getD p false = true ∧ S2 v (x p) (x q)) ∧ (listed.getD q false = false → listed.getD p false = true → S1 v (x p)) ∧ (listed.getD p false = false → S0 v)) hm hB hD ⟨x0, rfl, hC0, fun j F _ _ _ h => (by rw [getD_replicate_false] at h; cases h), fun h => (by rw [getD_replicate_false] at h; cases h), fun _ h => (by rw [getD_replicate_false] at h; cases h), fun _ => hS0⟩ ?_ ?_
  · rintro i hi listed a v hun hdep ⟨x, rfl, hc, hf, a2, a1, a0⟩
    have hdf : ∀ (j : Nat) (F : World → Value → Prop), (i, j) ∈ ds → j ≠ p → j ≠ q → Fs[j]? = some F → F v (x j) := fun j F hj e1 e2 hF => hf j F e1 e2 hF (hdep j hj)
    by_cases ep : i = p
    · subst ep
      have hpf := (getD_hun hun).1
      have hqf : listed.getD q false = false := by
        cases hb : listed.getD q false with
        | false => rfl
        | true =>
          have := (a2 hb).1
          rw [hpf] at this
          cases this
      refine hp x v hc (a0 hpf) hdf _ (fun u v' hg hu => ⟨upd x i u, rfl, hC v v' hg hc, fun j F e1 e2 hF hl => ?_, fun h => ?_, fun _ _ => ?_, fun h => ?_⟩)
      · rw [upd_ne x u e1]
        exact hst j F hF v v' _ hg (hf j F e1 e2 hF (by rwa [getD_set_ne false (fun e' => e1 e'.symm)] at hl))
      · rw [getD_set_ne false hne, hqf] at h
        cases h
      · rw [upd_at]
        exact hu
      · rw [(getD_hun hun).2] at h
        cases h
    · by_cases eq : i = q
      · subst eq
        have hpt := hdep p hpq
        have hqf := (getD_hun hun).1
        refine hq x v hc (a1 hqf hpt) hdf _ (fun u v' hg hu => ⟨upd x i u, rfl, hC v v' hg hc, fun j F e1 e2 hF hl => ?_, fun h => ⟨?_, ?_⟩, fun h => ?_, fun h => ?_⟩)
        · rw [upd_ne x u e2]
          exact hst j F hF v v' _ hg (hf j F e1 e2 hF (by rwa [getD_set_ne false (fun e' => e2 e'.symm)] at hl))
        · rw [getD_set_ne false (fun e => hne e.symm)]
          exact hpt
        · rw [upd_at, upd_ne x u hne]
          exact hu
        · rw [(getD_hun hun).2] at h
          cases h
        · rw [getD_set_ne false (fun e => hne e.symm), hpt] at h
          cases h
      · refine hstep i hi ep eq x v hc hdf _ (fun u v' hg hu => ⟨upd x i u, rfl, hC v v' (Kx.gr hg) hc, fun j F e1 e2 hF hl => ?_, fun h => ?_, fun h h' => ?_, fun h => ?_⟩)
        · by_cases e : j = i
          · subst e
            rw [upd_at]
            exact hu F hF
          · rw [upd_ne x u e]
            exact hst j F hF v v' _ (Kx.gr hg) (hf j F e1 e2 hF (by rwa [getD_set_ne false (fun e' => e e'.symm)] at hl))
        · rw [getD_set_ne false eq] at h
          rw [getD_set_ne false ep, upd_ne x u (fun e => ep e.symm), upd_ne x u (fun e => eq e.symm)]
          exact ⟨(a2 h).1, h2 v v' _ _ hg (a2 h).2⟩
        · rw [getD_set_ne false eq] at h
          rw [getD_set_ne false ep] at h'
          rw [upd_ne x u (fun e => ep e.symm)]
          exact h1 v v' _ hg (a1 h h')
        · rw [getD_set_ne false ep] at h
          exact h0 v v' hg (a0 h)
  · rintro listed a v hs hall ⟨x, rfl, hc, hf, a2, a1, a0⟩
    have hl : ∀ j, j < n → listed.getD j false = true := fun j hj => by
      have e1 := hall j hj
      have hl : j < listed.size := by omega
      simp [hl] at e1 ⊢
      exact e1
    exact hend x v hc (a2 (hl q hqn)).2 (fun j F hj e1 e2 hF => hf j F e1 e2 hF (hl j hj))

end Go.Proofs.Ytcdilmagcdbogaa

namespace Go.Proofs.Ytcdilmagcdbogaa
set_option linter.unusedVariables false
set_option linter.unusedSimpArgs false
open Go.RowKit

/-- The worlds of which F holds. -/
structure AtW (F : World → Prop) where
  val : World
  property : F val

theorem sem_value {P : Program} {w w' : World} {m : Sem Value} {n : Next} (h : (m >>= fun x => pure (Next.value x) : Sem Next).run P w = .ok n w') : ∃ v, n = .value v := by
  cases hm : m.run P w with
  | ok x w1 =>
    simp [hm, go_sem] at h
    exact ⟨_, h.1.symm⟩
  | halt x w1 => simp [hm, go_sem] at h

def plainB (o : Oper) : Bool := match o.op with
  | .move _ | .assign _ | .build _ _ | .load _ _ | .binOp _ _ _ _ _ | .unOp _ _ _ | .convert _ _ _ | .fieldAddr _ _ _ | .field _ _ _ | .indexAddr _ _ _ | .index _ _ _ | .extract _ _ => true
  | _ => false

theorem plain_value {P : Program} {ρ : Operand → Value} {o : Oper} (hp : plainB o = true) {w w' : World} {n : Next} (h : (execOp ρ o).run P w = .ok n w') : ∃ v, n = .value v := by
  unfold plainB at hp
  unfold execOp at h
  split at hp <;> rename_i e <;> try (rw [e] at h; exact sem_value h)
  · rw [e] at h
    simp [go_sem] at h
    exact ⟨_, h.1.symm⟩
  · rw [e] at h
    simp [go_sem] at h
    exact ⟨_, h.1.symm⟩
  · cases hp

section
variable {P : Program} {ops : Array Oper} {Q : Exit → Act → World → Prop} {S : World → Prop}

theorem ord_of_quiet {L : Act → World → Prop} {Q0 : Act → Prop} {r : List (Nat × Bool)} (hQ : ∀ d v c a w, Q (.panic c) (Act.put a d v) w → Q (.panic c) a w) (w : World) :
    ∀ (l : List Oper) (j : Nat) (a : Act), (∀ k o, l[k]? = some o → ops[j + k]? = some o) → l.all plainB = true → wpQuiet P ops S Q0 l a → (∀ a', Q0 a' → wpOrd P ops Q S L r a' w) →
      wpOrd P ops Q S L ((List.range' j l.length).map (fun i => (i, true)) ++ r) a w
  | [], j, a, _, _, h, hr => hr a h
  | o :: rest, j, a, hl, hp, h, hr => by
    simp only [List.all_cons, Bool.and_eq_true] at hp
    have ho : ops[j]? = some o := hl 0 o rfl
    have hl' : ∀ k o', rest[k]? = some o' → ops[j + 1 + k]? = some o' := fun k o' hk => by
      have := hl (k + 1) o' (by simpa using hk)
      rwa [show j + (k + 1) = j + 1 + k by omega] at this
    show ∃ o v, ops[j]? = some o ∧ YieldsIf P ops S o v a ∧ _ ∧ wpOrd P ops Q S L ((List.range' (j + 1) rest.length).map (fun i => (i, true)) ++ r) (a.put o.dst v) w
    unfold wpQuiet at h
    by_cases hw : Region.wanted o (yielded ops a.tmps) = true
    · rw [if_pos hw] at h
      obtain ⟨v, h1, h2⟩ := h
      refine ⟨o, v, ho, Or.inl ⟨hw, fun w1 hS => ?_⟩, fun c a w => hQ _ _ c a w, ord_of_quiet hQ w rest (j + 1) _ hl' hp.2 h2 hr⟩
      have h3 := h1 w1 hS
      unfold Oper.quietAt at h3
      cases hrun : (execOp a.eval o).run P w1 with
      | halt x w2 => rw [hrun] at h3; exact h3.elim
      | ok n w2 =>
        obtain ⟨u, rfl⟩ := plain_value hp.1 hrun
        rw [hrun] at h3
        obtain ⟨rfl, rfl⟩ := h3
        rfl
    · rw [if_neg hw] at h
      exact ⟨o, undef, ho, Or.inr ⟨by simpa using hw, rfl⟩, fun c a w => hQ _ _ c a w, ord_of_quiet hQ w rest (j + 1) _ hl' hp.2 h hr⟩

/-- A stretch of reads, walked as a quiet region is. -/
theorem ord_seg {lst : List Oper} {L : Act → World → Prop} {r : List (Nat × Bool)} {w : World} {a : Act} (j m : Nat) (hp : (decide (j + m ≤ lst.length) && ((lst.drop j).take m).all plainB) = true)
    (hQ : ∀ d v c a w, Q (.panic c) (Act.put a d v) w → Q (.panic c) a w) (h : wpQuiet P lst.toArray S (fun a' => wpOrd P lst.toArray Q S L r a' w) ((lst.drop j).take m) a) :
    wpOrd P lst.toArray Q S L ((List.range' j m).map (fun i => (i, true)) ++ r) a w := by
  simp only [Bool.and_eq_true, decide_eq_true_eq] at hp
  have hl : ((lst.drop j).take m).length = m := by simp; omega
  have := ord_of_quiet (Q := Q) (L := L) (r := r) hQ w ((lst.drop j).take m) j a (fun k o hk => by
    have hk' : k < m := by
      have := (List.getElem?_eq_some_iff.1 hk).1
      omega
    rw [List.getElem?_take_of_lt hk', List.getElem?_drop] at hk
    simpa using hk) hp.2 h (fun a' h' => h')
  rwa [hl] at this

theorem wp_region_reads {id : Nat} {a : Act} {w : World} {l : List Oper} (S : World → Prop) (n : Nat) (hm : P.follows .mixedOrders = true)
    (hB : (Region.noSelect l.toArray && decide (n + 1 < l.toArray.size) && Region.sinkB .any l.toArray (n + 1) && Region.chainB .any l.toArray (n + 1) && (l.take n).all plainB && ordB .any l.toArray (n + 1) ((List.range' 0 n).map (fun i => (i, true)) ++ [(n, false)]) (Array.replicate l.toArray.size false)) = true)
    (hQ : ∀ d v c a w, Q (.panic c) (Act.put a d v) w → Q (.panic c) a w)
    (hS : S w.drew) (h : wpQuiet P l.toArray S (fun a' => wpOp P l.toArray Q n (fun a' w' => S w' ∧ wpList P l.toArray Q (l.drop (n + 1)) a' w') a' w.drew) (l.take n) a) : (Code.region id l.toArray true).wp P Q a w := by
  simp only [Bool.and_eq_true, decide_eq_true_eq] at hB
  obtain ⟨⟨⟨⟨⟨hsel, hn⟩, hs⟩, hc⟩, hpl⟩, hord⟩ := hB
  have hn' : n + 1 < l.length := by simpa using hn
  have hlen : (l.take n).length = n := by simp; omega
  refine wp_region_ord S (n + 1) ((List.range' 0 n).map (fun i => (i, true)) ++ [(n, false)]) hm (by simp only [Bool.and_eq_true, decide_eq_true_eq]; exact ⟨⟨⟨⟨⟨hsel, hn⟩, hs⟩, hc⟩, by simp⟩, hord⟩) hS ?_
  have := ord_of_quiet (Q := Q) (L := fun a' w' => wpList P l.toArray Q (l.drop (n + 1)) a' w') (r := [(n, false)]) hQ w.drew (l.take n) 0 a (fun k o hk => by
    rw [Nat.zero_add]
    have hk' : k < n := by
      have := (List.getElem?_eq_some_iff.1 hk).1
      omega
    simpa [List.getElem?_take, hk'] using hk) hpl h (fun a' h' => h')
  rwa [hlen] at this

end

end Go.Proofs.Ytcdilmagcdbogaa

namespace Go.Proofs.Ytcdilmagcdbogaa
set_option linter.unusedVariables false
set_option linter.unusedSimpArgs false
open Go.RowKit

/-- A lot is handed back. -/
def LotPost (n : Nat) (me lo ba off : Int) (T : List V2) (w : World) (e : Ending) (w' : World) : Prop :=
  ∃ A Ao R Ro c d, e = .returned (.tuple #[.agg #[.int .i64 (n : Int), .int .i64 me, .int .i64 lo, .int .i64 ba], .int .i64 off, .slice (some ⟨A, Ao, none⟩) n c, .slice (some ⟨R, Ro, none⟩) n d]) ∧ IRow w' (some ⟨A, Ao, none⟩) (lotTru T n) ∧ IRow w' (some ⟨R, Ro, none⟩) (lotRea T off n) ∧ n ≤ c ∧ n ≤ d ∧ Gr w w'

theorem Apart.after {v u : Value} {g n c H : Nat} (h : Apart v u) (hg : u.ownBlock = some g ∨ g = H) (hv : ∀ b, v.ownBlock = some b → b < H) : Apart v (.slice (some ⟨g, 0, none⟩) n c) := by
  intro b hb hc
  simp only [Value.ownBlock, Option.some.injEq] at hc
  subst hc
  rcases hg with hg | rfl
  · exact h g hb hg
  · have := hv _ hb
    omega

theorem owns_apart {w w' : World} {base : Nat} {e : TypeId} {sz : Nat} {u v : Value} {n : Nat} {xs : List Value} (h : w.ownsRow base e sz u n xs) (hg : w.grownBy w' v.ownBlock) (ha : Apart u v) : w'.ownsRow base e sz u n xs :=
  h.kept hg (by
    cases hub : u.ownBlock with
    | none => exact .inl rfl
    | some b => exact .inr (fun he => ha b hub he.symm))

def TestHeld (b : Nat) (va vb : Int) (u : World) : Prop := u.cell? ⟨b, 0, none⟩ = some (.int .u8 va) ∧ u.cell? ⟨b, 1, none⟩ = some (.int .u8 vb)

def LotHeld (b : Nat) (r0 r1 r2 r3 of : Int) (u : World) : Prop := u.cell? ⟨b, 0, none⟩ = some (.int .u8 r0) ∧ u.cell? ⟨b, 1, none⟩ = some (.int .u8 r1) ∧ u.cell? ⟨b, 2, none⟩ = some (.int .u8 r2) ∧ u.cell? ⟨b, 3, none⟩ = some (.int .u8 r3) ∧ u.cell? ⟨b, 4, none⟩ = some (.int .u8 of)

set_option maxRecDepth 100000 in
set_option maxHeartbeats 4000000 in
theorem lot_any (r0 r1 r2 r3 of : Int) (T : List V2) (hT : ∀ v ∈ T, B2 v) (h0 : 0 ≤ r0 ∧ r0 ≤ 255) (h1 : 0 ≤ r1 ∧ r1 ≤ 255) (h2 : 0 ≤ r2 ∧ r2 ≤ 255) (h3 : 0 ≤ r3 ∧ r3 ≤ 255) (h4 : 0 ≤ of ∧ of ≤ 255)
    (n : Nat) (hn : 1 + r0 % 8 = (n : Int)) (ba : Int) (hba : r3 % ((n : Int) + 1) = ba) (off : Int) (hoff : of % 40 = off) (ta : Option Addr) (tc : Nat) (w : World) (rt : Row2 w ta T) :
    Calls Try.prog 51 #[.agg #[.int .u8 r0, .int .u8 r1, .int .u8 r2, .int .u8 r3, .int .u8 of, .slice ta T.length tc]] w (LotPost n r1 r2 ba off T w) := by
  have gg := (Gr.al w (.cells #[.int .u8 r0, .int .u8 r1, .int .u8 r2, .int .u8 r3, .int .u8 of, .slice ta T.length tc] 83)).tr (Gr.al _ (.cells #[.int .i64 0, .int .i64 0, .int .i64 0, .int .i64 0] 23))
  have hx := (Box.new w [.int .u8 r0, .int .u8 r1, .int .u8 r2, .int .u8 r3, .int .u8 of, .slice ta T.length tc] 83 w.heap.size rfl).keep (Gr.al _ (.cells #[.int .i64 0, .int .i64 0, .int .i64 0, .int .i64 0] 23))
  have hc := Own.new (w.alloc (.cells #[.int .u8 r0, .int .u8 r1, .int .u8 r2, .int .u8 r3, .int .u8 of, .slice ta T.length tc] 83)) [.int .i64 0, .int .i64 0, .int .i64 0, .int .i64 0] 23 (w.heap.size + 1) (by simp)
  have HT := Lib.hid hT
  clear hT
  go_enter Try.func51, Try.ntmps51
  go_upto_region 1 with fail
  refine wp_abs (fun U => Gr w U ∧ Box U w.heap.size [.int .u8 r0, .int .u8 r1, .int .u8 r2, .int .u8 r3, .int .u8 of, .slice ta T.length tc] ∧ Own U (w.heap.size + 1) [.int .i64 0, .int .i64 0, .int .i64 0, .int .i64 0]) ⟨gg, hx, hc⟩ ?_
  clear gg hx hc
  rintro U ⟨gg, hx, hc⟩
  have n1 : 1 ≤ n := by omega
  have n2 : n ≤ 8 := by omega
  have o0 : 0 ≤ off := by omega
  have o1 : off ≤ 39 := by omega
  have b0 : 0 ≤ ba := by rw [← hba]; exact Int.emod_nonneg _ (by omega)
  have b1 : ba < (n : Int) + 1 := by rw [← hba]; exact Int.emod_lt_of_pos _ (by omega)
  have z0 : r0.tmod 8 = r0 % 8 := Int.tmod_eq_emod_of_nonneg h0.1
  have z1 : IntKind.i64.wrap (1 + r0 % 8) = (n : Int) := by rw [IntWalk.i64_in _ (by omega)]; exact hn
  have z2 : IntKind.i64.wrap ((n : Int) + 1) = (n : Int) + 1 := IntWalk.i64_in _ (by omega)
  have z3 : ¬ ((n : Int) + 1 = 0) := by omega
  have z4 : r3.tmod ((n : Int) + 1) = ba := by rw [Int.tmod_eq_emod_of_nonneg h3.1]; exact hba
  have z5 : of.tmod 40 = off := by rw [Int.tmod_eq_emod_of_nonneg h4.1]; exact hoff
  have w1 : IntKind.i64.wrap r1 = r1 := IntWalk.i64_in _ (by omega)
  have w2 : IntKind.i64.wrap r2 = r2 := IntWalk.i64_in _ (by omega)
  have w3 : IntKind.i64.wrap r3 = r3 := IntWalk.i64_in _ (by omega)
  have w4 : IntKind.i64.wrap of = of := IntWalk.i64_in _ (by omega)
  have w5 : IntKind.i64.wrap ba = ba := IntWalk.i64_in _ (by omega)
  have w6 : IntKind.i64.wrap off = off := IntWalk.i64_in _ (by omega)
  obtain ⟨q0, q1, q2, q3, q4, q5⟩ := hx.c6
  go_upto_region 2 with fail
  have hF : LotHeld w.heap.size r0 r1 r2 r3 of U.drew := ⟨q0, q1, q2, q3, q4⟩
  haveI : Nonempty (AtW (LotHeld w.heap.size r0 r1 r2 r3 of)) := ⟨⟨_, hF⟩⟩
  have x1_ : ∀ u : AtW (LotHeld w.heap.size r0 r1 r2 r3 of), u.val.cell? ⟨w.heap.size, 1, none⟩ = some (.int .u8 r1) := fun u => u.property.2.1
  have x2_ : ∀ u : AtW (LotHeld w.heap.size r0 r1 r2 r3 of), u.val.cell? ⟨w.heap.size, 2, none⟩ = some (.int .u8 r2) := fun u => u.property.2.2.1
  have x3_ : ∀ u : AtW (LotHeld w.heap.size r0 r1 r2 r3 of), u.val.cell? ⟨w.heap.size, 3, none⟩ = some (.int .u8 r3) := fun u => u.property.2.2.2.1
  have x4_ : ∀ u : AtW (LotHeld w.heap.size r0 r1 r2 r3 of), u.val.cell? ⟨w.heap.size, 4, none⟩ = some (.int .u8 of) := fun u => u.property.2.2.2.2
  clear q0 q1 q2 q3 q4 q5
  refine wp_region_ord (fun w' => ∃ u : AtW (LotHeld w.heap.size r0 r1 r2 r3 of), w' = u.val) 23 ((List.range' 0 21).map (fun i => (i, true)) ++ [(21, false), (22, false)]) (by kernel_rfl) (by kernel_rfl) ⟨⟨_, hF⟩, rfl⟩ ?_
  refine ord_seg 0 21 (by kernel_rfl) (fun d _ _ _ _ h => by cases d <;> exact h) ?_
  simp only [List.drop_zero, List.take_succ_cons, List.take_zero]
  repeat (go_big_quiet_step (fail))
  refine wpQuiet_nil ?_
  clear x1_ x2_ x3_ x4_
  refine wpOp_step rfl (fun K' hK => ?_)
  go_simp
  have g1 := (Gr.dr U).tr (Gr.al U.drew (.cells #[.int .i64 0, .int .i64 0, .int .i64 0, .int .i64 0] 23))
  obtain ⟨q0, q1, q2, q3, q4, q5⟩ := (hx.keep g1).c6
  refine hK _ _ ⟨⟨⟨_, q0, q1, q2, q3, q4⟩, rfl⟩, ?_⟩
  clear hK q0 q1 q2 q3 q4 q5
  refine wpOp_step rfl (fun K' hK => ?_)
  go_simp
  have gB := (Gr.al U (.cells #[.int .i64 (n : Int), .int .i64 r1, .int .i64 r2, .int .i64 ba] 23)).tr (Gr.dr _)
  have bB := (Box.new U [.int .i64 (n : Int), .int .i64 r1, .int .i64 r2, .int .i64 ba] 23 U.heap.size rfl).keep (Gr.dr _)
  obtain ⟨q0, q1, q2, q3, q4, q5⟩ := (hx.keep gB).c6
  refine hK _ _ ⟨⟨⟨_, q0, q1, q2, q3, q4⟩, rfl⟩, ?_⟩
  clear hK q0 q1 q2 q3 q4 q5
  show wpList _ _ _ (List.drop 23 _) _ _
  simp only [List.drop_succ_cons, List.drop_zero]
  go_upto_region 3 with fail
  obtain ⟨D, hD⟩ : ∃ D, D = U.heap.size := ⟨_, rfl⟩
  have hDne : ¬ D = w.heap.size + 1 := by have := hc.1.1; omega
  have hDne : ¬ D = w.heap.size + 1 := by have := hc.1.1; omega
  rw [← hD] at bB ⊢
  refine wp_abs (fun V => Gr w V ∧ Box V w.heap.size [.int .u8 r0, .int .u8 r1, .int .u8 r2, .int .u8 r3, .int .u8 of, .slice ta T.length tc] ∧ Own V (w.heap.size + 1) [.int .i64 0, .int .i64 0, .int .i64 0, .int .i64 0] ∧ Box V D [.int .i64 (n : Int), .int .i64 r1, .int .i64 r2, .int .i64 ba]) ⟨gg.tr gB, hx.keep gB, hc.keep gB, bB⟩ ?_
  clear gg hx hc bB gB g1 hD hF z0 z1 z2 z3 z4 z5 w1 w2 w3 w4 w5 w6 h0 h1 h2 h3 h4 hn hba hoff
  rintro V ⟨gg, hx, hc, hd⟩
  obtain ⟨i0, hi, hz0, hz1, hz2⟩ := info_parts infoInt
  have gV := (Gr.al V (.cells #[] 3)).tr (Gr.al _ (.cells #[] 3))
  have oA := owns_keep (owns_empty V 3 1) (Gr.al _ (.cells #[] 3))
  have oR := owns_base (owns_empty (V.alloc (.cells #[] 3)) 3 1) (show V.heap.size ≤ (V.alloc (.cells #[] 3)).heap.size by simp)
  go_wp2
  go_loopw [11, 9, 10] (fun i s t wr => Hid (∃ k : Nat, k ≤ n ∧ i = .int .i64 k ∧ Gr V wr ∧ wr.ownsRow V.heap.size 3 1 s k ((lotTru T k).flatMap encI) ∧ wr.ownsRow V.heap.size 3 1 t k ((lotRea T off k).flatMap encI) ∧ Apart s t)) (fun i s t wr => n - (intOf i).toNat)
  case atStart => exact Lib.hid ⟨0, Nat.zero_le _, rfl, gV, oA, by simpa [lotRea] using oR, Apart.lit (by simp)⟩
  case round =>
    clear gV oA oR
    obtain ⟨k, hk, rfl, gW, oA, oR, hap⟩ := hrel.out
    clear hrel
    by_cases hlt : k < n
    · obtain ⟨va, vb, hv⟩ : ∃ a b, lotT T k = ⟨a, b⟩ := ⟨_, _, rfl⟩
      obtain ⟨⟨a0, a1⟩, c0, c1⟩ : (0 ≤ va ∧ va ≤ 255) ∧ (0 ≤ vb ∧ vb ≤ 255) := by have := lotT_bd HT.out k; rw [hv] at this; exact this
      have hA : lotA T k = va := by unfold lotA; rw [hv]
      have hR : lotR T off k = max 0 (va + vb % (2 * off + 1) - off) := by unfold lotR; rw [hv]
      have HA := Lib.hid hA
      have HR := Lib.hid hR
      have gT := Gr.al wr (.cells #[.int .u8 100, .int .u8 0] 100)
      obtain ⟨q0, q1, q2, q3, q4, q5⟩ := (hx.keep (gW.tr gT)).c6
      clear q0 q1 q2 q3 q4 hA hR
      have k1 : k + 1 ≤ maxLen := by unfold maxLen; omega
      have k2 : (k + 1) * 8 ≤ 140737488355328 := by omega
      by_cases hT : k < T.length
      · obtain ⟨x, hx'⟩ : ∃ x, T[k]? = some x := ⟨T[k], by simp [hT]⟩
        obtain rfl : x = ⟨va, vb⟩ := by rw [← hv]; unfold lotT; rw [hx']
        obtain ⟨tb, tof, rfl, ht, e0, e1⟩ := Row2.get (rt.grow (gg.tr (gW.tr gT))) hx'
        dsimp only at e0 e1
        clear hx' hv
        go_upto_region 10 with fail
        refine wp_abs (fun X => Gr wr X ∧ Box X wr.heap.size [.int .u8 va, .int .u8 vb]) ⟨Gr.al wr _, Box.new wr [.int .u8 va, .int .u8 vb] 100 wr.heap.size rfl⟩ ?_
        clear q5
        clear e0 e1
        rintro X ⟨gX, hb⟩
        obtain ⟨p0, p1⟩ := hb.c2
        have y0 : IntKind.i64.wrap va = va := IntWalk.i64_in _ (by omega)
        go_upto_region 11 with (at_builtin; refine wpList_append_sep _ rfl _ _ 24 rfl V.heap.size 3 i0 (.int .i64 0) 1 8 Try.underlying24 hi hz0 hz1 hz2 rfl (by decide) _ _ _ rfl (owns_keep oA (gX.tr (Gr.al X (.cells #[.int .i64 va] 3)))) ⟨X.heap.size, 0, none⟩ 1 1 ([va].map (fun n => Value.int .i64 n)) rfl rfl (cell_news _ _ _) (ints_one _) k1 k2 ((gW.tr (gX.tr (Gr.al _ _))).size) _ _ _ (owns_keep oR (gX.tr (Gr.al X (.cells #[.int .i64 va] 3)))) hap ?_; intro sv Y hA2 hgr hR2 hap2)
        have hneR : ∀ r, u10.ownBlock = some r → V.heap.size ≤ r ∧ r < wr.heap.size := oR.lt
        have hne : ∀ r, u9.ownBlock = some r → V.heap.size ≤ r ∧ r < wr.heap.size := oA.lt
        have hbY := (hb.keep (Gr.al X (.cells #[.int .i64 va] 3))).grown hgr (fun r hr => by have := hne r hr; omega)
        have gY := (gW.tr (gX.tr (Gr.al X (.cells #[.int .i64 va] 3)))).grown' (owns_keep oA (gX.tr (Gr.al X _))) (Nat.le_refl _) hgr
        clear hgr p0 p1 y0
        refine wp_abs (fun Z => Gr V Z ∧ Box Z wr.heap.size [.int .u8 va, .int .u8 vb] ∧ Z.ownsRow V.heap.size 3 1 sv (k + 1) ((lotTru T (k + 1)).flatMap encI) ∧ Z.ownsRow V.heap.size 3 1 u10 k ((lotRea T off k).flatMap encI)) ⟨gY, hbY, (by rw [lotTru_succ, flat_snoc, HA.out]; exact hA2), hR2⟩ ?_
        clear gY hbY hA2 hR2 hne hap oA oR gX hb
        rintro Z ⟨gZ, hb, oA, oR⟩
        obtain ⟨e0, e1⟩ := hb.c2
        obtain ⟨m, hm⟩ : ∃ m, vb % (2 * off + 1) = m := ⟨_, rfl⟩
        have m0 : 0 ≤ m := by rw [← hm]; exact Int.emod_nonneg _ (by omega)
        have m1 : m < 2 * off + 1 := by rw [← hm]; exact Int.emod_lt_of_pos _ (by omega)
        have z1 : IntKind.i64.wrap (2 * off) = 2 * off := IntWalk.i64_in _ (by omega)
        have z2 : IntKind.i64.wrap (2 * off + 1) = 2 * off + 1 := IntWalk.i64_in _ (by omega)
        have z3 : ¬ (2 * off + 1 = 0) := by omega
        have z4 : vb.tmod (2 * off + 1) = m := by rw [Int.tmod_eq_emod_of_nonneg c0]; exact hm
        have z5 : IntKind.i64.wrap m = m := IntWalk.i64_in _ (by omega)
        have z6 : IntKind.i64.wrap (va + m) = va + m := IntWalk.i64_in _ (by omega)
        have z7 : IntKind.i64.wrap (va + m - off) = va + m - off := IntWalk.i64_in _ (by omega)
        have z8 : IntKind.i64.wrap va = va := IntWalk.i64_in _ (by omega)
        have z9 : IntKind.i64.wrap vb = vb := IntWalk.i64_in _ (by omega)
        rw [hm] at HR
        have hF : TestHeld wr.heap.size va vb Z.drew := ⟨e0, e1⟩
        haveI : Nonempty (AtW (TestHeld wr.heap.size va vb)) := ⟨⟨_, hF⟩⟩
        have x0_ : ∀ u : AtW (TestHeld wr.heap.size va vb), u.val.cell? ⟨wr.heap.size, 0, none⟩ = some (.int .u8 va) := fun u => u.property.1
        have x1_ : ∀ u : AtW (TestHeld wr.heap.size va vb), u.val.cell? ⟨wr.heap.size, 1, none⟩ = some (.int .u8 vb) := fun u => u.property.2
        clear e0 e1 hm
        refine wp_region_ord (fun w' => ∃ u : AtW (TestHeld wr.heap.size va vb), w' = u.val) 17 ((List.range' 0 14).map (fun i => (i, true)) ++ [(14, false), (15, false), (16, false)]) (by kernel_rfl) (by kernel_rfl) ⟨⟨_, hF⟩, rfl⟩ ?_
        refine ord_seg 0 14 (by kernel_rfl) (fun d _ _ _ _ h => by cases d <;> exact h) ?_
        simp only [List.drop_zero, List.take_succ_cons, List.take_zero]
        repeat (go_big_quiet_step (fail))
        refine wpQuiet_nil ?_
        clear x0_ x1_
        refine wpOp_step rfl (fun K' hK => ?_)
        go_simp
        refine hK _ _ ⟨⟨⟨_, hF⟩, rfl⟩, ?_⟩
        clear hK
        refine wpOp_step rfl (fun K' hK => ?_)
        go_simp
        have gA := Gr.al Z (.cells #[.int .i64 (max 0 (va + m - off))] 3)
        have gB := gA.tr (Gr.dr _)
        obtain ⟨e0, e1⟩ := (hb.keep gB).c2
        refine hK _ _ ⟨⟨⟨_, e0, e1⟩, rfl⟩, ?_⟩
        clear hK
        refine wpOp_step rfl (fun K' hK => ?_)
        refine step_append_lies _ (by rfl) _ _ 24 (by rfl) V.heap.size 3 i0 (.int .i64 0) 1 8 Try.underlying24 hi hz0 hz1 hz2 rfl (by decide) u10 k _ (by rfl) (owns_keep oR gB) ⟨Z.heap.size, 0, none⟩ 1 1 ([max 0 (va + m - off)].map (fun n => Value.int .i64 n)) (by rfl) (by rfl) (cell_news _ _ _) (ints_one _) (by omega) k1 k2 ?_ _ rfl ?_
        · exact (gZ.tr gB).size
        intro gb cap w4 hR4 hgr4 hat4 hlt4
        have hbY := (hb.keep gB).grown hgr4 (fun r hr => by have := hneR r hr; omega)
        have gY := (gZ.tr gB).grown' (owns_keep oR gB) (Nat.le_refl _) hgr4
        have oA4 := owns_apart (owns_keep oA gB) hgr4 hap2
        have hap4 := Apart.after (n := k + 1) (c := cap) hap2 hat4 (fun b hb => by have := (owns_keep oA gB).lt b hb; exact this.2)
        obtain ⟨e0, e1⟩ := hbY.c2
        refine hK _ _ ⟨⟨⟨_, e0, e1⟩, rfl⟩, ?_⟩
        clear hK hgr4 hat4 e0 e1 hbY
        show wpList _ _ _ (List.drop 17 _) _ _
        simp only [List.drop_succ_cons, List.drop_zero]
        clear z1 z2 z3 z4 z5 z6 z7 z8 z9
        go_wp2
        go_roundw
        case rel => exact Lib.hid ⟨k + 1, by omega, by go_num, gY, oA4, (by rw [lotRea_succ, flat_snoc, HR.out]; exact hR4), hap4⟩
        case measure => simp [intOf]; omega
      · obtain ⟨ea, eb⟩ : va = 100 ∧ vb = 0 := by
          have e1 : (⟨100, 0⟩ : V2) = ⟨va, vb⟩ := by rw [← hv]; unfold lotT; rw [List.getElem?_eq_none (by omega)]
          injection e1 with e2 e3
          exact ⟨e2.symm, e3.symm⟩
        clear hv
        go_upto_region 10 with fail
        refine wp_abs (fun X => Gr wr X ∧ Box X wr.heap.size [.int .u8 va, .int .u8 vb]) ⟨Gr.al wr _, (by rw [ea, eb]; exact Box.new wr [.int .u8 100, .int .u8 0] 100 wr.heap.size rfl)⟩ ?_
        clear q5
        clear ea eb
        rintro X ⟨gX, hb⟩
        obtain ⟨p0, p1⟩ := hb.c2
        have y0 : IntKind.i64.wrap va = va := IntWalk.i64_in _ (by omega)
        go_upto_region 11 with (at_builtin; refine wpList_append_sep _ rfl _ _ 24 rfl V.heap.size 3 i0 (.int .i64 0) 1 8 Try.underlying24 hi hz0 hz1 hz2 rfl (by decide) _ _ _ rfl (owns_keep oA (gX.tr (Gr.al X (.cells #[.int .i64 va] 3)))) ⟨X.heap.size, 0, none⟩ 1 1 ([va].map (fun n => Value.int .i64 n)) rfl rfl (cell_news _ _ _) (ints_one _) k1 k2 ((gW.tr (gX.tr (Gr.al _ _))).size) _ _ _ (owns_keep oR (gX.tr (Gr.al X (.cells #[.int .i64 va] 3)))) hap ?_; intro sv Y hA2 hgr hR2 hap2)
        have hneR : ∀ r, u10.ownBlock = some r → V.heap.size ≤ r ∧ r < wr.heap.size := oR.lt
        have hne : ∀ r, u9.ownBlock = some r → V.heap.size ≤ r ∧ r < wr.heap.size := oA.lt
        have hbY := (hb.keep (Gr.al X (.cells #[.int .i64 va] 3))).grown hgr (fun r hr => by have := hne r hr; omega)
        have gY := (gW.tr (gX.tr (Gr.al X (.cells #[.int .i64 va] 3)))).grown' (owns_keep oA (gX.tr (Gr.al X _))) (Nat.le_refl _) hgr
        clear hgr p0 p1 y0
        refine wp_abs (fun Z => Gr V Z ∧ Box Z wr.heap.size [.int .u8 va, .int .u8 vb] ∧ Z.ownsRow V.heap.size 3 1 sv (k + 1) ((lotTru T (k + 1)).flatMap encI) ∧ Z.ownsRow V.heap.size 3 1 u10 k ((lotRea T off k).flatMap encI)) ⟨gY, hbY, (by rw [lotTru_succ, flat_snoc, HA.out]; exact hA2), hR2⟩ ?_
        clear gY hbY hA2 hR2 hne hap oA oR gX hb
        rintro Z ⟨gZ, hb, oA, oR⟩
        obtain ⟨e0, e1⟩ := hb.c2
        obtain ⟨m, hm⟩ : ∃ m, vb % (2 * off + 1) = m := ⟨_, rfl⟩
        have m0 : 0 ≤ m := by rw [← hm]; exact Int.emod_nonneg _ (by omega)
        have m1 : m < 2 * off + 1 := by rw [← hm]; exact Int.emod_lt_of_pos _ (by omega)
        have z1 : IntKind.i64.wrap (2 * off) = 2 * off := IntWalk.i64_in _ (by omega)
        have z2 : IntKind.i64.wrap (2 * off + 1) = 2 * off + 1 := IntWalk.i64_in _ (by omega)
        have z3 : ¬ (2 * off + 1 = 0) := by omega
        have z4 : vb.tmod (2 * off + 1) = m := by rw [Int.tmod_eq_emod_of_nonneg c0]; exact hm
        have z5 : IntKind.i64.wrap m = m := IntWalk.i64_in _ (by omega)
        have z6 : IntKind.i64.wrap (va + m) = va + m := IntWalk.i64_in _ (by omega)
        have z7 : IntKind.i64.wrap (va + m - off) = va + m - off := IntWalk.i64_in _ (by omega)
        have z8 : IntKind.i64.wrap va = va := IntWalk.i64_in _ (by omega)
        have z9 : IntKind.i64.wrap vb = vb := IntWalk.i64_in _ (by omega)
        rw [hm] at HR
        have hF : TestHeld wr.heap.size va vb Z.drew := ⟨e0, e1⟩
        haveI : Nonempty (AtW (TestHeld wr.heap.size va vb)) := ⟨⟨_, hF⟩⟩
        have x0_ : ∀ u : AtW (TestHeld wr.heap.size va vb), u.val.cell? ⟨wr.heap.size, 0, none⟩ = some (.int .u8 va) := fun u => u.property.1
        have x1_ : ∀ u : AtW (TestHeld wr.heap.size va vb), u.val.cell? ⟨wr.heap.size, 1, none⟩ = some (.int .u8 vb) := fun u => u.property.2
        clear e0 e1 hm
        refine wp_region_ord (fun w' => ∃ u : AtW (TestHeld wr.heap.size va vb), w' = u.val) 17 ((List.range' 0 14).map (fun i => (i, true)) ++ [(14, false), (15, false), (16, false)]) (by kernel_rfl) (by kernel_rfl) ⟨⟨_, hF⟩, rfl⟩ ?_
        refine ord_seg 0 14 (by kernel_rfl) (fun d _ _ _ _ h => by cases d <;> exact h) ?_
        simp only [List.drop_zero, List.take_succ_cons, List.take_zero]
        repeat (go_big_quiet_step (fail))
        refine wpQuiet_nil ?_
        clear x0_ x1_
        refine wpOp_step rfl (fun K' hK => ?_)
        go_simp
        refine hK _ _ ⟨⟨⟨_, hF⟩, rfl⟩, ?_⟩
        clear hK
        refine wpOp_step rfl (fun K' hK => ?_)
        go_simp
        have gA := Gr.al Z (.cells #[.int .i64 (max 0 (va + m - off))] 3)
        have gB := gA.tr (Gr.dr _)
        obtain ⟨e0, e1⟩ := (hb.keep gB).c2
        refine hK _ _ ⟨⟨⟨_, e0, e1⟩, rfl⟩, ?_⟩
        clear hK
        refine wpOp_step rfl (fun K' hK => ?_)
        refine step_append_lies _ (by rfl) _ _ 24 (by rfl) V.heap.size 3 i0 (.int .i64 0) 1 8 Try.underlying24 hi hz0 hz1 hz2 rfl (by decide) u10 k _ (by rfl) (owns_keep oR gB) ⟨Z.heap.size, 0, none⟩ 1 1 ([max 0 (va + m - off)].map (fun n => Value.int .i64 n)) (by rfl) (by rfl) (cell_news _ _ _) (ints_one _) (by omega) k1 k2 ?_ _ rfl ?_
        · exact (gZ.tr gB).size
        intro gb cap w4 hR4 hgr4 hat4 hlt4
        have hbY := (hb.keep gB).grown hgr4 (fun r hr => by have := hneR r hr; omega)
        have gY := (gZ.tr gB).grown' (owns_keep oR gB) (Nat.le_refl _) hgr4
        have oA4 := owns_apart (owns_keep oA gB) hgr4 hap2
        have hap4 := Apart.after (n := k + 1) (c := cap) hap2 hat4 (fun b hb => by have := (owns_keep oA gB).lt b hb; exact this.2)
        obtain ⟨e0, e1⟩ := hbY.c2
        refine hK _ _ ⟨⟨⟨_, e0, e1⟩, rfl⟩, ?_⟩
        clear hK hgr4 hat4 e0 e1 hbY
        show wpList _ _ _ (List.drop 17 _) _ _
        simp only [List.drop_succ_cons, List.drop_zero]
        clear z1 z2 z3 z4 z5 z6 z7 z8 z9
        go_wp2
        go_roundw
        case rel => exact Lib.hid ⟨k + 1, by omega, by go_num, gY, oA4, (by rw [lotRea_succ, flat_snoc, HR.out]; exact hR4), hap4⟩
        case measure => simp [intOf]; omega
    · obtain rfl : k = n := by omega
      have h1 := lotTru_len T k
      have h2 := lotRea_len T off k
      obtain ⟨A, c, hvA, rA, _, hcA⟩ := owns_row_cap (enc := encI) (l := lotTru T k) (fun _ => rfl) (by omega) (by rw [h1]; exact oA)
      obtain ⟨R, d, hvR, rR, _, hcR⟩ := owns_row_cap (enc := encI) (l := lotRea T off k) (fun _ => rfl) (by omega) (by rw [h2]; exact oR)
      have nA : NewAt V.heap.size A := fun b o x e => by
        have := oA.lt b (by rw [hvA, e]; rfl)
        omega
      have nR : NewAt V.heap.size R := fun b o x e => by
        have := oR.lt b (by rw [hvR, e]; rfl)
        omega
      obtain ⟨Ab, Ao, rfl, _⟩ := rA.addr (by omega)
      obtain ⟨Rb, Ro, rfl, _⟩ := rR.addr (by omega)
      rw [h1] at hvA hcA
      rw [h2] at hvR hcR
      subst hvA
      subst hvR
      obtain ⟨d0, d1, d2, d3⟩ := (hd.keep gW).c4
      obtain ⟨u0, u1, u2, u3⟩ := (hc.keep gW).1.c4
      have y0 := (hc.keep gW).2 0
      have y1 := (hc.keep gW).2 1
      have y2 := (hc.keep gW).2 2
      have y3 := (hc.keep gW).2 3
      have hVs : w.heap.size + 1 < V.heap.size := hc.1.1
      have hDn : ¬ D = w.heap.size + 1 := hDne
      have hDn' : ¬ w.heap.size + 1 = D := fun h => hDne h.symm
      clear oA oR hap
      go_wp2
      refine bodyPost_ret (v := .tuple #[.agg #[.int .i64 (k : Int), .int .i64 r1, .int .i64 r2, .int .i64 ba], .int .i64 off, .slice (some ⟨Ab, Ao, none⟩) k c, .slice (some ⟨Rb, Ro, none⟩) k d]) (by simp [results, Try.results51, go_sem, u0, u1, u2, u3]) rfl ⟨Ab, Ao, Rb, Ro, c, d, rfl, ?_, ?_, hcA, hcR, ?_⟩
      · exact ((((rA.other nA (by omega)).other nA (by omega)).other nA (by omega)).other nA (by omega))
      · exact ((((rR.other nR (by omega)).other nR (by omega)).other nR (by omega)).other nR (by omega))
      · exact ((((gg.tr gW).setCell (by simp) _).setCell (by simp) _).setCell (by simp) _).setCell (by simp) _

end Go.Proofs.Ytcdilmagcdbogaa

namespace Go.Proofs.Ytcdilmagcdbogaa
set_option linter.unusedVariables false
set_option linter.unusedSimpArgs false
open Go.RowKit

set_option maxRecDepth 100000 in
theorem refTruth_any (r off : Int) (r0 : 0 ≤ r) (r1 : r ≤ 100000) (o0 : 0 ≤ off) (o1 : off ≤ 1000) (w : World) :
    Calls Try.prog 77 #[.int .i64 r, .int .i64 off] w fun e w' => e = .returned (.agg #[.int .i64 (max 0 (r - off)), .int .i64 (min 100000 (r + off))]) ∧ Gr w w' := by
  have w0 : IntKind.i64.wrap (r - off) = r - off := IntWalk.i64_in _ (by omega)
  have w1 : IntKind.i64.wrap (r + off) = r + off := IntWalk.i64_in _ (by omega)
  have oU := Own.new w [.int .i64 0, .int .i64 0] 45 w.heap.size rfl
  obtain ⟨u0, u1⟩ := oU.1.c2
  have z0 := oU.2 0
  have z1 := oU.2 1
  go_enter Try.func77, Try.ntmps77
  go_wp2
  obtain ⟨y0, y1⟩ := (Box.new w [.int .i64 (max 0 (r - off)), .int .i64 (min 100000 (r + off))] 45 w.heap.size rfl).c2
  exact bodyPost_ret (v := .agg #[.int .i64 (max 0 (r - off)), .int .i64 (min 100000 (r + off))]) (by simp [results, Try.results77, go_sem, y0, y1]) rfl ⟨rfl, Gr.al _ _⟩

/-- One end of the truths of the first so many tests. -/
def endsL (hi : Bool) (off : Int) (l : List Int) (k : Nat) : List Int := (List.range k).map (fun i => if hi then (truthAt off l i).2 else (truthAt off l i).1)

theorem endsL_succ (hi : Bool) (off : Int) (l : List Int) (k : Nat) : endsL hi off l (k + 1) = endsL hi off l k ++ [if hi then (truthAt off l k).2 else (truthAt off l k).1] := by simp [endsL, List.range_succ]

theorem endsL_len (hi : Bool) (off : Int) (l : List Int) (k : Nat) : (endsL hi off l k).length = k := by simp [endsL]

theorem ends_sum (hi : Bool) (off : Int) (l : List Int) (low : Int) : ∀ L : List Nat, sumS false (diag (L.map (fun i => if hi then (truthAt off l i).2 else (truthAt off l i).1))) = sumS hi (L.map (truthAt off l)) ∧ badS false low (diag (L.map (fun i => if hi then (truthAt off l i).2 else (truthAt off l i).1))) = badS hi low (L.map (truthAt off l))
  | [] => by simp [diag, sumS, badS]
  | x :: L => by
    obtain ⟨a, b⟩ := ends_sum hi off l low L
    simp only [diag, List.map_cons, sumS, badS] at a b ⊢
    rw [a, b]
    exact ⟨rfl, rfl⟩

theorem ends_pass (hi : Bool) (n : Nat) (me lo ba off : Int) (l : List Int) : passB false (n : Int) me lo ba (diag (endsL hi off l n)) = passB hi (n : Int) me lo ba (truthsL n off l) := by
  obtain ⟨a, b⟩ := ends_sum hi off l lo (List.range n)
  unfold passB endsL truthsL
  rw [a, b]

theorem endsL_bd {hi : Bool} {off : Int} {l : List Int} {k : Nat} (o0 : 0 ≤ off) (o1 : off ≤ 1000) (hB : ∀ r ∈ l, 0 ≤ r ∧ r ≤ 100000) : ∀ x ∈ endsL hi off l k, 0 ≤ x ∧ x ≤ 100000 := by
  intro x hx
  simp only [endsL, List.mem_map] at hx
  obtain ⟨i, _, rfl⟩ := hx
  obtain ⟨a, b, c, d⟩ := truthAt_bd o0 o1 hB i
  cases hi <;> simp <;> omega

theorem Box.kx {Z : Nat → Prop} {w w' : World} {b : Nat} {vs : List Value} (h : Box w b vs) (k : Kx Z w w') (hz : ¬ Z b) : Box w' b vs :=
  ⟨Nat.lt_of_lt_of_le h.1 k.size, fun i v hv => (World.cell?_of_block (w := w) (a := ⟨b, i, none⟩) (k.block b h.1 hz)).trans (h.2 i v hv)⟩

end Go.Proofs.Ytcdilmagcdbogaa

namespace Go.Proofs.Ytcdilmagcdbogaa
set_option linter.unusedVariables false
set_option linter.unusedSimpArgs false
open Go.RowKit

set_option maxRecDepth 100000 in
set_option maxHeartbeats 2000000 in
theorem refLess_any (l m : List Int) (a b : Option Addr) (c d : Nat) (w : World) (hl : IRow w a l) (hm : IRow w b m) :
    Calls Try.prog 82 #[.slice a l.length c, .slice b m.length d] w fun e w' => e = .returned (.bool (lessI l m)) ∧ Gr w w' := by
  have hl0 := hl.1
  have hm0 := hm.1
  by_cases hlen : l.length = m.length
  · have hb : ((l.length : Int) != (m.length : Int)) = false := by rw [bne_eq_false_iff_eq]; omega
    obtain ⟨R, hR⟩ : ∃ R, lessI l m = R := ⟨_, rfl⟩
    have HR := Lib.hid hR
    have hR2 : lexI l m = R := by rw [← hR]; unfold lessI; rw [if_pos hlen]
    have HR2 := Lib.hid hR2
    have HLen := Lib.hid hlen
    clear hR hR2 hlen
    go_enter Try.func82, Try.ntmps82
    go_wp2
    go_loopw [5] (fun t wr => Hid (∃ k : Nat, k ≤ l.length ∧ t = .int .i64 k ∧ Gr w wr ∧ l.take k = m.take k)) (fun t _ => l.length - (intOf t).toNat)
    case atStart => exact Lib.hid ⟨0, Nat.zero_le _, rfl, Below.refl _ _, by simp⟩
    case round =>
      obtain ⟨k, hk, rfl, gW, ht⟩ := hrel.out
      clear hrel
      by_cases hlt : k < l.length
      · have hlt2 : k < m.length := by have := HLen.out; omega
        obtain ⟨x, hx⟩ : ∃ x, l[k]? = some x := ⟨l[k], by simp [hlt]⟩
        obtain ⟨y, hy⟩ : ∃ y, m[k]? = some y := ⟨m[k], by simp [hlt2]⟩
        obtain ⟨b1, o1, rfl, h1, c1⟩ := IRow.get (hl.grow gW) hx
        obtain ⟨b2, o2, rfl, h2, c2⟩ := IRow.get (hm.grow gW) hy
        by_cases hxy : x = y
        · have hne : (x != y) = false := by simpa using hxy
          have ht' : l.take (k + 1) = m.take (k + 1) := by rw [List.take_add_one, List.take_add_one, hx, hy, ht, hxy]
          have HT := Lib.hid ht'
          clear ht ht' hx hy hxy
          go_upto_region 6 with fail
          go_quiet (fail)
          go_wp2
          go_roundw
          case rel => exact Lib.hid ⟨k + 1, by omega, by go_num, Gr.drewN gW _, HT.out⟩
          case measure => simp [intOf]; omega
        · have hne : (x != y) = true := by simpa using hxy
          have E := Lib.hid (show R = decide (x < y) by rw [← HR2.out]; exact lexI_at l m k x y ht hx hy hxy)
          clear ht hx hy hxy
          go_upto_region 6 with fail
          go_quiet (fail)
          have c1' := (Gr.drewN (Below.refl wr.heap.size wr) nq).keep c1
          have c2' := (Gr.drewN (Below.refl wr.heap.size wr) nq).keep c2
          have gN := Gr.drewN gW nq
          generalize wr.drewN nq = Z at *
          go_upto_region 7 with fail
          go_quiet (fail)
          go_wp2
          go_ret
          exact ⟨ret_bool (by rw [HR.out, E.out]), Gr.drewN gN _⟩
      · obtain rfl : k = l.length := by omega
        have E := Lib.hid (show R = false by
          rw [List.take_length, List.take_of_length_le (by have := HLen.out; omega)] at ht
          rw [← HR2.out, ht]
          exact lexI_self m)
        clear ht
        go_wp2
        go_ret
        exact ⟨ret_bool (by rw [HR.out, E.out]), gW⟩
  · have hb : ((l.length : Int) != (m.length : Int)) = true := by rw [bne_iff_ne]; omega
    have E := Lib.hid (show lessI l m = decide ((l.length : Int) < (m.length : Int)) by unfold lessI; rw [if_neg hlen]; simp)
    go_enter Try.func82, Try.ntmps82
    go_wp2
    go_ret
    exact ⟨ret_bool (by rw [E.out]; simp), Below.refl _ _⟩

theorem cellU {w : World} {b off : Nat} {l : List Int} (h : IRow w (some ⟨b, off, none⟩) l) {j : Nat} {x : Int} (hx : l[j]? = some x) : w.cell? ⟨b, off + j, none⟩ = some (.int .i64 x) := by
  obtain ⟨b', off', e, _, hc⟩ := IRow.get h hx
  injection e with e
  injection e with e1 e2 _
  subst e1
  subst e2
  exact hc

theorem fieldSpU0 (a b : Value) (w : World) : (Instr.field 45 (.agg #[a, b]) 0).run Try.prog w = .ok a w := by kernel_rfl

theorem fieldSpU1 (a b : Value) (w : World) : (Instr.field 45 (.agg #[a, b]) 1).run Try.prog w = .ok b w := by kernel_rfl

set_option maxRecDepth 100000 in
set_option maxHeartbeats 4000000 in
theorem refClose_any (R : List Int) (off spread : Int) (hR : ∀ x ∈ R, 0 ≤ x ∧ x ≤ 100000) (o0 : 0 ≤ off) (o1 : off ≤ 1000) (d : Bool) (hd : closeB off spread R = d) (a : Option Addr) (cap : Nat) (w : World) (hr : IRow w a R) :
    Calls Try.prog 81 #[.slice a R.length cap, .int .i64 off, .int .i64 spread] w fun e w' => e = .returned (.bool d) ∧ Gr w w' := by
  have hl0 := hr.1
  have HD := Lib.hid hd
  have HB := Lib.hid hR
  clear hd hR
  go_enter Try.func81, Try.ntmps81
  go_wp2
  go_loopw [7] (fun i wr => Hid (∃ k : Nat, k ≤ R.length ∧ i = .int .i64 k ∧ Gr w wr ∧ ∀ x ∈ R.take k, ∀ y ∈ R, loO off x - hiO off y ≤ spread)) (fun i _ => R.length - (intOf i).toNat)
  case atStart => exact Lib.hid ⟨0, Nat.zero_le _, rfl, Below.refl _ _, fun x hx => by simp at hx⟩
  case round =>
    obtain ⟨k, hk, rfl, gW, hp⟩ := hrel.out
    have HP := Lib.hid hp
    clear hrel hp
    by_cases hlt : k < R.length
    · obtain ⟨x, hx⟩ : ∃ x, R[k]? = some x := ⟨R[k], by simp [hlt]⟩
      obtain ⟨x0, x1⟩ := HB.out x (List.mem_of_getElem? hx)
      obtain ⟨lx, hlx⟩ : ∃ z, loO off x = z := ⟨_, rfl⟩
      obtain ⟨ux, hux⟩ : ∃ z, hiO off x = z := ⟨_, rfl⟩
      have hlx0 : 0 ≤ lx ∧ lx ≤ 100000 := by rw [← hlx]; unfold loO; omega
      have HC1 : Hid (∀ W', Calls Try.prog 77 #[.int .i64 x, .int .i64 off] W' fun e w' => e = .returned (.agg #[.int .i64 lx, .int .i64 ux]) ∧ Gr W' w') := Lib.hid (fun W' => by
        have := refTruth_any x off x0 x1 o0 o1 W'
        rw [← hlx, ← hux]
        exact this)
      have HX := Lib.hid hx
      have HLX := Lib.hid hlx
      clear hx hlx hux
      go_wp2
      go_loopw [8] (fun i wv => Hid (∃ j : Nat, j ≤ R.length ∧ i = .int .i64 j ∧ Gr w wv ∧ ∀ y ∈ R.take j, lx - hiO off y ≤ spread)) (fun i _ => R.length - (intOf i).toNat)
      case atStart => exact Lib.hid ⟨0, Nat.zero_le _, rfl, gW, fun y hy => by simp at hy⟩
      case round =>
        clear gW
        obtain ⟨j, hj, rfl, gW, hq⟩ := hrel.out
        have HQ := Lib.hid hq
        clear hrel hq
        by_cases hjt : j < R.length
        · obtain ⟨y, hy⟩ : ∃ y, R[j]? = some y := ⟨R[j], by simp [hjt]⟩
          obtain ⟨y0, y1⟩ := HB.out y (List.mem_of_getElem? hy)
          obtain ⟨ly, hly⟩ : ∃ z, loO off y = z := ⟨_, rfl⟩
          obtain ⟨uy, huy⟩ : ∃ z, hiO off y = z := ⟨_, rfl⟩
          have huy0 : 0 ≤ uy ∧ uy ≤ 100000 := by rw [← huy]; unfold hiO; omega
          have HC2 : Hid (∀ W', Calls Try.prog 77 #[.int .i64 y, .int .i64 off] W' fun e w' => e = .returned (.agg #[.int .i64 ly, .int .i64 uy]) ∧ Gr W' w') := Lib.hid (fun W' => by
            have := refTruth_any y off y0 y1 o0 o1 W'
            rw [← hly, ← huy]
            exact this)
          obtain ⟨b1, o1', rfl, _, c1⟩ := IRow.get (hr.grow gW) HX.out
          have c2 := cellU (hr.grow gW) hy
          have q1 := From.keep c1
          have q2 := From.keep c2
          have hf0 := fieldSpU0
          have hf1 := fieldSpU1
          have w0 : IntKind.i64.wrap (lx - uy) = lx - uy := IntWalk.i64_in _ (by omega)
          have HY := Lib.hid hy
          have HUY := Lib.hid huy
          clear c1 c2 hy hly huy
          go_upto_region 7 with fail
          refine wp_region_gr (by kernel_rfl) (by kernel_rfl) ?_
          repeat (go_big_quiet_step (first
            | (go_at_call 77; (with_reducible exact Calls.gr (HC1.out _)))
            | (go_at_call 77; (with_reducible exact Calls.gr (HC2.out _)))))
          refine wpQuiet_nil ?_
          rintro _ ⟨u, rfl⟩
          clear q1 q2 hf0 hf1
          have gU := u.property
          generalize u.val = Z at *
          by_cases hs : spread < lx - uy
          · have E := Lib.hid (show d = false by
              rw [← HD.out]
              cases hc : closeB off spread R with
              | false => rfl
              | true =>
                have := close_iff.1 hc x (List.mem_of_getElem? HX.out) y (List.mem_of_getElem? HY.out)
                rw [HLX.out, HUY.out] at this
                omega)
            have hs' : decide (spread < lx - uy) = true := by simpa using hs
            go_wp2
            go_ret
            exact ⟨ret_bool E.out.symm, gW.tr gU⟩
          · have hs' : decide (spread < lx - uy) = false := by simpa using hs
            have HN := Lib.hid (show ∀ y ∈ R.take (j + 1), lx - hiO off y ≤ spread from fun z hz => by
              rw [List.take_add_one, HY.out] at hz
              rcases List.mem_append.1 hz with h | h
              · exact HQ.out z h
              · simp at h
                subst h
                rw [HUY.out]
                omega)
            go_wp2
            go_roundw
            case rel => exact Lib.hid ⟨j + 1, by omega, by go_num, gW.tr gU, HN.out⟩
            case measure => simp [intOf]; omega
        · obtain rfl : j = R.length := by omega
          have HN := Lib.hid (show ∀ z ∈ R.take (k + 1), ∀ y ∈ R, loO off z - hiO off y ≤ spread from fun z hz y hy => by
            rw [List.take_add_one, HX.out] at hz
            rcases List.mem_append.1 hz with h | h
            · exact HP.out z h y hy
            · simp at h
              subst h
              rw [HLX.out]
              exact HQ.out y (by rw [List.take_length]; exact hy))
          clear hjt hj
          go_wp2
          go_roundw
          case rel => exact Lib.hid ⟨k + 1, by omega, by go_num, gW, HN.out⟩
          case measure => simp [intOf]; omega
    · obtain rfl : k = R.length := by omega
      have E := Lib.hid (show d = true by
        rw [← HD.out, close_iff]
        have := HP.out
        rw [List.take_length] at this
        exact this)
      go_wp2
      go_ret
      exact ⟨ret_bool E.out.symm, gW⟩

end Go.Proofs.Ytcdilmagcdbogaa

namespace Go.Proofs.Ytcdilmagcdbogaa
set_option linter.unusedVariables false
set_option linter.unusedSimpArgs false
open Go.RowKit

/-- A box in bytes. -/
structure V4 where
  a : Int
  b : Int
  c : Int
  d : Int

def encV4 (v : V4) : List Value := [.int .u8 v.a, .int .u8 v.b, .int .u8 v.c, .int .u8 v.d]

abbrev Row4 := RowOf 4 encV4

def B4 (v : V4) : Prop := (0 ≤ v.a ∧ v.a ≤ 255) ∧ (0 ≤ v.b ∧ v.b ≤ 255) ∧ (0 ≤ v.c ∧ v.c ≤ 255) ∧ (0 ≤ v.d ∧ v.d ≤ 255)

theorem Row4.get {w : World} {a : Option Addr} {l : List V4} (h : Row4 w a l) {j : Nat} {x : V4} (hx : l[j]? = some x) :
    ∃ b o, a = some ⟨b, o, none⟩ ∧ b < w.heap.size ∧ w.cell? ⟨b, o + j * 4, none⟩ = some (.int .u8 x.a) ∧ w.cell? ⟨b, o + j * 4 + 1, none⟩ = some (.int .u8 x.b) ∧ w.cell? ⟨b, o + j * 4 + 2, none⟩ = some (.int .u8 x.c) ∧ w.cell? ⟨b, o + j * 4 + 3, none⟩ = some (.int .u8 x.d) := by
  obtain ⟨b, o, ha, hb, hc⟩ := h.2 j x hx
  exact ⟨b, o, ha, hb, hc 0 _ rfl, hc 1 _ rfl, hc 2 _ rfl, hc 3 _ rfl⟩

def boxW (v : V4) : Ld := ⟨4 * v.a, 4 * v.a + v.b % 50, v.c, v.c + v.d % 30⟩

def boxesW (X : List V4) (n : Nat) : List Ld := (X.take n).map boxW

theorem boxesW_len {X : List V4} {n : Nat} (h : n ≤ X.length) : (boxesW X n).length = n := by simp [boxesW]; omega

theorem boxesW_succ {X : List V4} {n : Nat} {x : V4} (h : X[n]? = some x) : boxesW X (n + 1) = boxesW X n ++ [boxW x] := by
  unfold boxesW
  rw [List.take_add_one, h, Option.toList_some, List.map_append]
  rfl

theorem boxW_bd {v : V4} (h : B4 v) : LdOk (boxW v) ∧ (boxW v).sl ≤ (boxW v).sh ∧ (boxW v).wl ≤ (boxW v).wh ∧ (boxW v).sh ≤ 1069 ∧ (boxW v).wh ≤ 284 := by
  obtain ⟨⟨a0, a1⟩, ⟨b0, b1⟩, ⟨c0, c1⟩, d0, d1⟩ := h
  unfold boxW LdOk LdB
  dsimp only
  omega

theorem boxesW_mem {X : List V4} {n : Nat} (hX : ∀ v ∈ X, B4 v) {x : Ld} (hx : x ∈ boxesW X n) : LdOk x ∧ x.sl ≤ x.sh ∧ x.wl ≤ x.wh ∧ x.sh ≤ 1069 ∧ x.wh ≤ 284 := by
  simp only [boxesW, List.mem_map] at hx
  obtain ⟨v, hv, rfl⟩ := hx
  exact boxW_bd (hX v (List.mem_of_mem_take hv))

/-- The steps of the table. -/
def nextW (s : Stp) (v : V2) : Stp := ⟨s.day + 1 + v.a % 60, s.keep * (255 - v.b / 3) / 255⟩

def stepW (S : List V2) : Nat → Stp
  | 0 => ⟨0, 1000⟩
  | k + 1 => nextW (stepW S k) (lotT S k)

def tabW (S : List V2) (n : Nat) : List Stp := (List.range (n + 1)).map (stepW S)

theorem tabW_len (S : List V2) (n : Nat) : (tabW S n).length = n + 1 := by simp [tabW]

theorem tabW_succ (S : List V2) (n : Nat) : tabW S (n + 1) = tabW S n ++ [stepW S (n + 1)] := by simp [tabW, List.range_succ]

theorem tabW_at {S : List V2} {n k : Nat} (h : k ≤ n) : (tabW S n)[k]? = some (stepW S k) := by
  unfold tabW
  rw [List.getElem?_map, List.getElem?_range (by omega)]
  rfl

theorem nextW_bd {s : Stp} {v : V2} (h : B2 v) (k0 : 0 ≤ s.keep) : s.day + 1 ≤ (nextW s v).day ∧ (nextW s v).day ≤ s.day + 60 ∧ 0 ≤ (nextW s v).keep ∧ (nextW s v).keep ≤ s.keep := by
  obtain ⟨⟨a0, a1⟩, b0, b1⟩ := h
  unfold nextW
  dsimp only
  have h1 : 0 ≤ s.keep * (255 - v.b / 3) := Int.mul_nonneg k0 (by omega)
  have h2 : s.keep * (255 - v.b / 3) ≤ s.keep * 255 := Int.mul_le_mul_of_nonneg_left (by omega) k0
  omega

theorem stepW_bd {S : List V2} (h : ∀ v ∈ S, B2 v) : ∀ k : Nat, 0 ≤ (stepW S k).day ∧ (stepW S k).day ≤ 60 * (k : Int) ∧ 0 ≤ (stepW S k).keep ∧ (stepW S k).keep ≤ 1000
  | 0 => by simp [stepW]
  | k + 1 => by
    have ih := stepW_bd h k
    have h1 := nextW_bd (s := stepW S k) (lotT_bd h k) ih.2.2.1
    show 0 ≤ (nextW (stepW S k) (lotT S k)).day ∧ _
    simp only [stepW]
    omega

theorem stepW_next {S : List V2} (h : ∀ v ∈ S, B2 v) (k : Nat) : (stepW S k).day + 1 ≤ (stepW S (k + 1)).day ∧ (stepW S (k + 1)).keep ≤ (stepW S k).keep := by
  have h1 := nextW_bd (s := stepW S k) (lotT_bd h k) (stepW_bd h k).2.2.1
  exact ⟨h1.1, h1.2.2.2⟩

theorem chain_tab {S : List V2} (h : ∀ v ∈ S, B2 v) : ∀ (m i : Nat) (d kk : Int), i + m ≤ 7 → d + 1 ≤ (stepW S i).day → (stepW S i).keep ≤ kk → chainL d kk ((List.range' i m).map (stepW S)) = true
  | 0, _, _, _, _, _, _ => rfl
  | m + 1, i, d, kk, hi, hd, hk => by
    have hb := stepW_bd h i
    have hn := stepW_next h i
    have ih := chain_tab h m (i + 1) (stepW S i).day (stepW S i).keep (by omega) hn.1 hn.2
    rw [List.range'_succ, List.map_cons]
    unfold chainL
    rw [ih]
    simp [inB, in1]
    omega

theorem table_tab {S : List V2} (h : ∀ v ∈ S, B2 v) {n : Nat} (hn : n ≤ 6) : tableL (tabW S n) = true := by
  have hc := chain_tab h (n + 1) 0 (-1) 1000 (by omega) (by simp [stepW]) (by simp [stepW])
  have e : tabW S n = (List.range' 0 (n + 1)).map (stepW S) := by rw [tabW, List.range_eq_range']
  have e0 : tabW S n = stepW S 0 :: (List.range' 1 n).map (stepW S) := by rw [e, List.range'_succ, List.map_cons]
  have hl := tabW_len S n
  unfold tableL
  rw [hl, e, hc, ← e, e0]
  simp [inB, in1, stepW]
  omega

theorem pile_stored {X : List V4} {S : List V2} (hX : ∀ v ∈ X, B4 v) (hS : ∀ v ∈ S, B2 v) {m n : Nat} {most days : Int} (hm : (m : Int) ≤ most) (hmx : m ≤ X.length) (hn : n ≤ 6) (d0 : 0 ≤ days) (d1 : days ≤ 10000) : storedL most (boxesW X m) (tabW S n) days = 0 := by
  have h1 : boxedL most (boxesW X m) = 0 := by
    unfold boxedL
    rw [boxesW_len hmx, if_neg (by omega)]
    have : (boxesW X m).all okLd = true := by
      rw [List.all_eq_true]
      intro x hx
      obtain ⟨⟨⟨a, b, c, d⟩, e, f⟩, g, hh, i, j⟩ := boxesW_mem hX hx
      simp [okLd, okSpan, inB, in1]
      omega
    rw [this]
    rfl
  have h2 := table_tab hS hn
  unfold storedL
  rw [h1, h2]
  simp [inB, in1]
  omega

end Go.Proofs.Ytcdilmagcdbogaa

namespace Go.Proofs.Ytcdilmagcdbogaa
set_option linter.unusedVariables false
set_option linter.unusedSimpArgs false
open Go.RowKit

theorem infoSt2 : (Try.prog.info? 138).map (fun i => (i.zero, i.size, i.bytes)) = some (some (.agg #[.int .i64 0, .int .i64 0]), 2, 16) := by kernel_rfl

theorem alloc_at (W : World) (o : Obj) {n : Nat} (h : n = W.heap.size) : (W.alloc o).heap[n]? = some o := by
  subst h
  show (Array.push W.heap o)[_]? = _
  simp

/-- A pile is handed back: so many boxes, and a table. -/
def PilePost (X : List V4) (S : List V2) (m n : Nat) (w : World) (e : Ending) (w' : World) : Prop :=
  ∃ b c d f, e = .returned (.tuple #[.slice (some ⟨b, 0, none⟩) m c, .slice (some ⟨d, 0, none⟩) (n + 1) f]) ∧ LRow w' (some ⟨b, 0, none⟩) (boxesW X m) ∧ TRow w' (some ⟨d, 0, none⟩) (tabW S n) ∧ m ≤ c ∧ n + 1 ≤ f ∧ Gr w w'

def StepHeld (b xb sb so : Nat) (day keep : Int) (sv : Value) (va vb : Int) (u : World) : Prop := u.cell? ⟨b, 0, none⟩ = some (.int .i64 day) ∧ u.cell? ⟨b, 1, none⟩ = some (.int .i64 keep) ∧ u.cell? ⟨xb, 1, none⟩ = some sv ∧ u.cell? ⟨sb, so, none⟩ = some (.int .u8 va) ∧ u.cell? ⟨sb, so + 1, none⟩ = some (.int .u8 vb)

set_option maxRecDepth 100000 in
set_option maxHeartbeats 8000000 in
theorem pile_any (X : List V4) (S : List V2) (most m n : Nat) (hX : ∀ v ∈ X, B4 v) (hS : ∀ v ∈ S, B2 v) (hm : min X.length most = m) (hm2 : most ≤ 50) (hn : min S.length 6 = n) (xa sa : Option Addr) (xc sc : Nat) (w : World) (rx : Row4 w xa X) (rs : Row2 w sa S) :
    Calls Try.prog 54 #[.agg #[.slice xa X.length xc, .slice sa S.length sc], .int .i64 (most : Int)] w (PilePost X S m n w) := by
  have gg := Gr.al w (.cells #[.slice xa X.length xc, .slice sa S.length sc] 105)
  have hx := Box.new w [.slice xa X.length xc, .slice sa S.length sc] 105 w.heap.size rfl
  have HX := Lib.hid hX
  have HS := Lib.hid hS
  clear hX hS
  go_enter Try.func54, Try.ntmps54

  go_upto_region 1 with fail
  refine wp_abs (fun U => Gr w U ∧ Box U w.heap.size [.slice xa X.length xc, .slice sa S.length sc]) ⟨gg, hx⟩ ?_
  clear gg hx
  rintro U ⟨gg, hx⟩
  obtain ⟨p0, p1⟩ := hx.c2
  go_upto_region 2 with fail
  have oA := owns_keep (owns_empty U 70 4) (Gr.al _ (.cells #[.int .i64 0, .int .i64 1000] 138))
  have oK : ((U.alloc (.cells #[] 70)).alloc (.cells #[.int .i64 0, .int .i64 1000] 138)).ownsRow U.heap.size 138 2 (.slice (some ⟨U.heap.size + 1, 0, none⟩) 1 1) 1 ((tabW S 0).flatMap encT) := ⟨rfl, .inr ⟨U.heap.size + 1, 1, #[.int .i64 0, .int .i64 1000], rfl, by omega, alloc_at _ _ (by simp), by omega, by decide, rfl, rfl⟩⟩
  have gU := (Gr.al U (.cells #[] 70)).tr (Gr.al _ (.cells #[.int .i64 0, .int .i64 1000] 138))
  obtain ⟨B0, hB0⟩ : ∃ B0, B0 = U.heap.size := ⟨_, rfl⟩
  have hB1 : U.heap.size ≤ B0 ∧ B0 ≤ U.heap.size := by omega
  rw [← hB0] at oA oK ⊢
  clear hB0 p0 p1
  obtain ⟨i0, hi, hz0, hz1, hz2⟩ := info_parts infoLd
  obtain ⟨i1, hj, hy0, hy1, hy2⟩ := info_parts infoSt2
  refine wp_abs (fun V => Gr U V ∧ V.ownsRow B0 70 4 (.slice (some ⟨B0, 0, none⟩) 0 0) 0 [] ∧ V.ownsRow B0 138 2 (.slice (some ⟨B0 + 1, 0, none⟩) 1 1) 1 ((tabW S 0).flatMap encT) ∧ B0 + 2 ≤ V.heap.size) ⟨gU, oA, oK, (by simp; omega)⟩ ?_
  clear gU oA oK
  rintro V ⟨gU, oA, oK, hsz⟩
  go_wp2
  go_loopw [8, 6] (fun i s wr => Hid (∃ k g cap : Nat, k ≤ m ∧ i = .int .i64 k ∧ s = .slice (some ⟨g, 0, none⟩) k cap ∧ g ≠ B0 + 1 ∧ Gr U wr ∧ B0 + 2 ≤ wr.heap.size ∧ wr.ownsRow B0 70 4 (.slice (some ⟨g, 0, none⟩) k cap) k ((boxesW X k).flatMap encL) ∧ wr.ownsRow B0 138 2 (.slice (some ⟨B0 + 1, 0, none⟩) 1 1) 1 ((tabW S 0).flatMap encT))) (fun i _ _ => m - (intOf i).toNat)
  case atStart => exact Lib.hid ⟨0, B0, 0, by omega, rfl, rfl, by omega, gU, hsz, (by simpa [boxesW] using oA), oK⟩
  case round =>
    clear gU oA oK hsz
    obtain ⟨k, g, cap, hk, rfl, rfl, hg, gW, hsz, oA, oK⟩ := hrel.out
    clear hrel
    by_cases hlt : k < m
    · have c1 : k < X.length := by omega
      have c2 : k < most := by omega
      obtain ⟨v, hv⟩ : ∃ v, X[k]? = some v := ⟨X[k], by simp [c1]⟩
      obtain ⟨⟨a0, a1⟩, ⟨b0, b1⟩, ⟨e0, e1⟩, d0, d1⟩ := HX.out v (List.mem_of_getElem? hv)
      obtain ⟨xb, xo, rfl, hxb, y0, y1, y2, y3⟩ := Row4.get (rx.grow (gg.tr gW)) hv
      obtain ⟨p0, p1⟩ := (hx.keep gW).c2
      have HB := Lib.hid (boxesW_succ hv)
      obtain ⟨va, vb, vc, vd⟩ := v
      dsimp only at a0 a1 b0 b1 e0 e1 d0 d1 y0 y1 y2 y3
      clear hv
      have w0 : IntKind.i64.wrap va = va := IntWalk.i64_in _ (by omega)
      have w1 : IntKind.i64.wrap vb = vb := IntWalk.i64_in _ (by omega)
      have w2 : IntKind.i64.wrap vc = vc := IntWalk.i64_in _ (by omega)
      have w3 : IntKind.i64.wrap vd = vd := IntWalk.i64_in _ (by omega)
      have w4 : IntKind.i64.wrap (4 * va) = 4 * va := IntWalk.i64_in _ (by omega)
      have z0 : vb.tmod 50 = vb % 50 := Int.tmod_eq_emod_of_nonneg b0
      have z1 : vd.tmod 30 = vd % 30 := Int.tmod_eq_emod_of_nonneg d0
      have w5 : IntKind.i64.wrap (vb % 50) = vb % 50 := IntWalk.i64_in _ (by omega)
      have w6 : IntKind.i64.wrap (vd % 30) = vd % 30 := IntWalk.i64_in _ (by omega)
      have w7 : IntKind.i64.wrap (4 * va + vb % 50) = 4 * va + vb % 50 := IntWalk.i64_in _ (by omega)
      have w8 : IntKind.i64.wrap (vc + vd % 30) = vc + vd % 30 := IntWalk.i64_in _ (by omega)
      have k1 : k + 1 ≤ maxLen := by unfold maxLen; omega
      have k2 : (k + 1) * 32 ≤ 140737488355328 := by omega
      go_upto_region 6 with fail
      refine wp_abs (fun Z => Gr wr Z ∧ Box Z wr.heap.size [.int .u8 va, .int .u8 vb, .int .u8 vc, .int .u8 vd]) ⟨Gr.al wr _, Box.new wr [.int .u8 va, .int .u8 vb, .int .u8 vc, .int .u8 vd] 80 wr.heap.size rfl⟩ ?_
      clear p0 p1 y0 y1 y2 y3
      rintro Z ⟨gZ, hb⟩
      obtain ⟨y0, y1, y2, y3⟩ := hb.c4
      go_wp2_with (first
        | (go_at_call 59; refine (load_any (4 * va) (4 * va + vb % 50) vc (vc + vd % 30) _).mono ?_; rintro e wl ⟨rfl, gl⟩; have gJ := gZ.tr gl)
        | (at_builtin; refine wpList_append_lies _ rfl _ _ 53 rfl B0 70 i0 _ 4 32 Try.underlying53 hi hz0 hz1 hz2 rfl (by decide) (.slice (some ⟨g, 0, none⟩) k cap) k _ rfl (owns_keep oA (gJ.tr (Gr.al wl (.cells #[.int .i64 (4 * va), .int .i64 (4 * va + vb % 50), .int .i64 vc, .int .i64 (vc + vd % 30)] 70)))) ⟨wl.heap.size, 0, none⟩ 1 1 ([4 * va, 4 * va + vb % 50, vc, vc + vd % 30].map (fun n => Value.int .i64 n)) rfl rfl (cell_news _ _ _) (ints_one _) (by omega) k1 k2 (by have := (gJ.tr (Gr.al wl (.cells #[.int .i64 (4 * va), .int .i64 (4 * va + vb % 50), .int .i64 vc, .int .i64 (vc + vd % 30)] 70))).size; omega) _ rfl ?_; intro g2 cap2 Y hA2 hgr hat hlt2))
      go_roundw
      case rel =>
        have gN := gJ.tr (Gr.al wl (.cells #[.int .i64 (4 * va), .int .i64 (4 * va + vb % 50), .int .i64 vc, .int .i64 (vc + vd % 30)] 70))
        have gY := (gW.tr gN).grown' (owns_keep oA gN) (by omega) hgr
        have hne : g2 ≠ B0 + 1 := by
          rcases hat with h | h
          · simp only [Value.ownBlock, Option.some.injEq] at h
            omega
          · have := gN.size
            omega
        have oK2 := (owns_keep oK gN).kept hgr (.inr (by simp only [Value.ownBlock, ne_eq, Option.some.injEq]; omega))
        exact Lib.hid ⟨k + 1, g2, cap2, by omega, by go_num, rfl, hne, gY, by have := hgr.size; have := gN.size; omega, (by rw [HB.out, flat_snoc]; exact hA2), oK2⟩
      case measure => simp [intOf]; omega
    · obtain rfl : m = k := by omega
      clear hlt hk
      obtain ⟨p0, p1⟩ := (hx.keep gW).c2
      by_cases c1 : m < X.length
      · have c2 : decide ((m : Int) < (most : Int)) = false := by simp; omega
        go_wp2
        go_loopw [10, 7] (fun i s wr => Hid (∃ k h cp : Nat, k ≤ n ∧ i = .int .i64 k ∧ s = .slice (some ⟨h, 0, none⟩) (k + 1) cp ∧ h ≠ g ∧ Gr U wr ∧ wr.ownsRow B0 70 4 (.slice (some ⟨g, 0, none⟩) m cap) m ((boxesW X m).flatMap encL) ∧ wr.ownsRow B0 138 2 (.slice (some ⟨h, 0, none⟩) (k + 1) cp) (k + 1) ((tabW S k).flatMap encT))) (fun i _ _ => n - (intOf i).toNat)
        case atStart => exact Lib.hid ⟨0, B0 + 1, 1, by omega, rfl, rfl, by omega, gW, oA, oK⟩
        case round =>
          clear gW oA oK hg hsz p0 p1
          obtain ⟨k, h, cp, hk, rfl, rfl, hg, gW, oA, oK⟩ := hrel.out
          clear hrel
          obtain ⟨p0, p1⟩ := (hx.keep gW).c2
          by_cases hlt : k < n
          · have c3 : k < S.length := by omega
            have c4 : decide ((k : Int) < 6) = true := by simp; omega
            obtain ⟨v, hv⟩ : ∃ v, S[k]? = some v := ⟨S[k], by simp [c3]⟩
            have hlt2 : lotT S k = v := by unfold lotT; rw [hv]
            obtain ⟨⟨a0, a1⟩, b0, b1⟩ := HS.out v (List.mem_of_getElem? hv)
            obtain ⟨sb, sof, rfl, hsb, v0, v1⟩ := Row2.get (rs.grow gg) hv
            have y0 := gW.keep v0
            have y1 := gW.keep v1
            obtain ⟨d0, d1, e0, e1⟩ := stepW_bd HS.out k
            obtain ⟨dy, kp, hst⟩ : ∃ d q, stepW S k = ⟨d, q⟩ := ⟨_, _, rfl⟩
            have hnx : stepW S (k + 1) = nextW (stepW S k) (lotT S k) := rfl
            rw [hst, hlt2] at hnx
            rw [hst] at d0 d1 e0 e1
            obtain ⟨va, vb⟩ := v
            dsimp only at a0 a1 b0 b1 v0 v1 y0 y1 d0 d1 e0 e1
            have hat0 := tabW_at (S := S) (Nat.le_refl k)
            rw [hst] at hat0
            obtain ⟨ra, rc, hva, tr⟩ := owns_row (enc := encT) (l := tabW S k) (fun _ => rfl) (by rw [tabW_len]; omega) (by rw [tabW_len]; exact oK)
            injection hva with f1 f2 f3
            subst f1
            obtain ⟨b2, o2, f4, _, u0, u1⟩ := TRow.get tr hat0
            injection f4 with f4
            injection f4 with f5 f6 _
            subst f5
            subst f6
            simp only [Nat.zero_add] at u0 u1
            have HN := Lib.hid hnx
            clear hv hlt2 hst hnx hat0 tr f2 f3
            have w0 : IntKind.i64.wrap va = va := IntWalk.i64_in _ (by omega)
            have w1 : IntKind.i64.wrap vb = vb := IntWalk.i64_in _ (by omega)
            have w2 : IntKind.i64.wrap ((k : Int) + 1 - 1) = (k : Int) := by rw [IntWalk.i64_in _ (by omega)]; omega
            have w2' : IntKind.i64.wrap (((k + 1 : Nat) : Int) - 1) = (k : Int) := by rw [IntWalk.i64_in _ (by omega)]; omega
            have w3 : IntKind.i64.wrap (dy + 1) = dy + 1 := IntWalk.i64_in _ (by omega)
            have z0 : va.tmod 60 = va % 60 := Int.tmod_eq_emod_of_nonneg a0
            have w4 : IntKind.i64.wrap (va % 60) = va % 60 := IntWalk.i64_in _ (by omega)
            have w5 : IntKind.i64.wrap (dy + 1 + va % 60) = dy + 1 + va % 60 := IntWalk.i64_in _ (by omega)
            have z1 : vb.tdiv 3 = vb / 3 := Int.tdiv_eq_ediv_of_nonneg b0
            have w6 : IntKind.i64.wrap (vb / 3) = vb / 3 := IntWalk.i64_in _ (by omega)
            have w7 : IntKind.i64.wrap (255 - vb / 3) = 255 - vb / 3 := IntWalk.i64_in _ (by omega)
            have m0 : 0 ≤ kp * (255 - vb / 3) := Int.mul_nonneg e0 (by omega)
            have m1 : kp * (255 - vb / 3) ≤ 1000 * 255 := Int.mul_le_mul e1 (by omega) (by omega) (by omega)
            have w8 : IntKind.i64.wrap (kp * (255 - vb / 3)) = kp * (255 - vb / 3) := IntWalk.i64_in _ (by omega)
            have z2 : (kp * (255 - vb / 3)).tdiv 255 = kp * (255 - vb / 3) / 255 := Int.tdiv_eq_ediv_of_nonneg m0
            have w9 : IntKind.i64.wrap (kp * (255 - vb / 3) / 255) = kp * (255 - vb / 3) / 255 := IntWalk.i64_in _ (by omega)
            have k1 : k + 1 + 1 ≤ maxLen := by unfold maxLen; omega
            have k2 : (k + 1 + 1) * 16 ≤ 140737488355328 := by omega
            go_upto_region 11 with fail
            refine wp_abs (fun Z => Gr wr Z ∧ Box Z wr.heap.size [.int .i64 dy, .int .i64 kp]) ⟨Gr.al wr _, Box.new wr [.int .i64 dy, .int .i64 kp] 138 wr.heap.size rfl⟩ ?_
            rintro Z ⟨gZ, hb⟩
            have hheld : ∀ W, Gr Z W → StepHeld wr.heap.size w.heap.size sb (sof + k * 2) dy kp (.slice (some ⟨sb, sof, none⟩) S.length sc) va vb W := fun W g => ⟨(hb.keep g).2 0 _ rfl, (hb.keep g).2 1 _ rfl, ((gZ.tr g)).keep p1, ((gZ.tr g)).keep y0, ((gZ.tr g)).keep y1⟩
            have hF := hheld _ (Gr.dr Z)
            haveI : Nonempty (AtW (StepHeld wr.heap.size w.heap.size sb (sof + k * 2) dy kp (.slice (some ⟨sb, sof, none⟩) S.length sc) va vb)) := ⟨⟨_, hF⟩⟩
            have x0_ : ∀ u : AtW (StepHeld wr.heap.size w.heap.size sb (sof + k * 2) dy kp (.slice (some ⟨sb, sof, none⟩) S.length sc) va vb), u.val.cell? ⟨wr.heap.size, 0, none⟩ = some (.int .i64 dy) := fun u => u.property.1
            have x1_ : ∀ u : AtW (StepHeld wr.heap.size w.heap.size sb (sof + k * 2) dy kp (.slice (some ⟨sb, sof, none⟩) S.length sc) va vb), u.val.cell? ⟨wr.heap.size, 1, none⟩ = some (.int .i64 kp) := fun u => u.property.2.1
            have x2_ : ∀ u : AtW (StepHeld wr.heap.size w.heap.size sb (sof + k * 2) dy kp (.slice (some ⟨sb, sof, none⟩) S.length sc) va vb), u.val.cell? ⟨w.heap.size, 1, none⟩ = some (.slice (some ⟨sb, sof, none⟩) S.length sc) := fun u => u.property.2.2.1
            have x3_ : ∀ u : AtW (StepHeld wr.heap.size w.heap.size sb (sof + k * 2) dy kp (.slice (some ⟨sb, sof, none⟩) S.length sc) va vb), u.val.cell? ⟨sb, sof + k * 2, none⟩ = some (.int .u8 va) := fun u => u.property.2.2.2.1
            have x4_ : ∀ u : AtW (StepHeld wr.heap.size w.heap.size sb (sof + k * 2) dy kp (.slice (some ⟨sb, sof, none⟩) S.length sc) va vb), u.val.cell? ⟨sb, sof + k * 2 + 1, none⟩ = some (.int .u8 vb) := fun u => u.property.2.2.2.2
            refine wp_region_ord (fun w' => ∃ u : AtW (StepHeld wr.heap.size w.heap.size sb (sof + k * 2) dy kp (.slice (some ⟨sb, sof, none⟩) S.length sc) va vb), w' = u.val) 29 ((List.range' 0 27).map (fun i => (i, true)) ++ [(27, false), (28, false)]) (by kernel_rfl) (by kernel_rfl) ⟨⟨_, hF⟩, rfl⟩ ?_
            refine ord_seg 0 27 (by kernel_rfl) (fun d _ _ _ _ h => by cases d <;> exact h) ?_
            simp only [List.drop_zero, List.take_succ_cons, List.take_zero]
            repeat (go_big_quiet_step (fail))
            refine wpQuiet_nil ?_
            clear x0_ x1_ x2_ x3_ x4_
            refine wpOp_step rfl (fun K' hK => ?_)
            go_simp
            have gB := (Gr.al Z (.cells #[.int .i64 (dy + 1 + va % 60), .int .i64 (kp * (255 - vb / 3) / 255)] 138)).tr (Gr.dr _)
            refine hK _ _ ⟨⟨⟨_, hheld _ gB⟩, rfl⟩, ?_⟩
            clear hK
            refine wpOp_step rfl (fun K' hK => ?_)
            refine step_append_lies _ (by rfl) _ _ 54 (by rfl) B0 138 i1 _ 2 16 Try.underlying54 hj hy0 hy1 hy2 rfl (by decide) (.slice (some ⟨h, 0, none⟩) (k + 1) cp) (k + 1) _ (by rfl) (owns_keep oK (gZ.tr gB)) ⟨Z.heap.size, 0, none⟩ 1 1 ([dy + 1 + va % 60, kp * (255 - vb / 3) / 255].map (fun n => Value.int .i64 n)) (by rfl) (by rfl) (cell_news _ _ _) (ints_one _) (by omega) k1 k2 ?_ _ rfl ?_
            · have := (gW.tr (gZ.tr gB)).size
              omega
            intro h2 cap4 W4 hR4 hgr4 hat4 hlt4
            have gY := (gW.tr (gZ.tr gB)).grown' (owns_keep oK (gZ.tr gB)) (by omega) hgr4
            have hbd := (oA.lt g rfl).2
            have hne : h2 ≠ g := by
              rcases hat4 with q | q
              · simp only [Value.ownBlock, Option.some.injEq] at q
                omega
              · have := (gZ.tr gB).size
                omega
            have oA2 := (owns_keep oA (gZ.tr gB)).kept hgr4 (.inr (by simp only [Value.ownBlock, ne_eq, Option.some.injEq]; omega))
            have hblk : ∀ q, (Value.slice (some ⟨h, 0, none⟩) (k + 1) cp).ownBlock = some q → q = h := fun q e => by simp only [Value.ownBlock, Option.some.injEq] at e; exact e.symm
            have hhB : B0 ≤ h := (oK.lt h rfl).1
            have hh2 : h < wr.heap.size := (oK.lt h rfl).2
            have hb4 := (hb.keep gB).grown hgr4 (fun r hr => by have := hblk r hr; omega)
            refine hK _ _ ⟨⟨⟨_, hb4.2 0 _ rfl, hb4.2 1 _ rfl, (hx.keep gY).2 1 _ rfl, gY.keep v0, gY.keep v1⟩, rfl⟩, ?_⟩
            clear hK hgr4 hat4 hb4
            show wpList _ _ _ (List.drop 29 _) _ _
            simp only [List.drop_succ_cons, List.drop_zero]
            clear w0 w1 w2 w2' w3 w4 w5 w6 w7 w8 w9 z0 z1 z2 m0 m1
            go_wp2
            go_roundw
            case rel =>
              have hR5 : W4.ownsRow B0 138 2 (.slice (some ⟨h2, 0, none⟩) (k + 1 + 1) cap4) (k + 1 + 1) ((tabW S (k + 1)).flatMap encT) := by
                rw [tabW_succ, HN.out, flat_snoc]
                exact hR4
              first | exact Lib.hid ⟨k + 1, h2, cap4, by omega, by go_num, rfl, hne, gY, oA2, hR5⟩ | exact Lib.hid ⟨k + 1, by omega, by go_num, h2, cap4, ⟨rfl, rfl, rfl⟩, hne, hR5⟩
            case measure => simp [intOf]; omega
          · obtain rfl : n = k := by omega
            clear hlt hk
            obtain ⟨ra, rc, hva, rA, _, hcA⟩ := owns_row_cap (enc := encL) (l := boxesW X m) (fun _ => rfl) (by rw [boxesW_len (by omega)]; omega) (by rw [boxesW_len (by omega)]; exact oA)
            obtain ⟨rb, rd, hvb, rK, _, hcK⟩ := owns_row_cap (enc := encT) (l := tabW S n) (fun _ => rfl) (by rw [tabW_len]; omega) (by rw [tabW_len]; exact oK)
            rw [boxesW_len (by omega)] at hva hcA
            rw [tabW_len] at hvb hcK
            injection hva with f1 f2 f3
            subst f1
            subst f3
            injection hvb with f4 f5 f6
            subst f4
            subst f6
            clear f2 f5 oA oK
            by_cases c3 : n < S.length
            · have c4 : decide ((n : Int) < 6) = false := by simp; omega
              go_wp2
              go_ret2
              exact ⟨g, cap, h, cp, rfl, rA, rK, hcA, hcK, gg.tr gW⟩
            · go_wp2
              go_ret2
              exact ⟨g, cap, h, cp, rfl, rA, rK, hcA, hcK, gg.tr gW⟩
      · have c1d : decide ((m : Int) < (X.length : Int)) = false := by simp; omega
        go_wp2
        go_loopw [10, 7] (fun i s wr => Hid (∃ k h cp : Nat, k ≤ n ∧ i = .int .i64 k ∧ s = .slice (some ⟨h, 0, none⟩) (k + 1) cp ∧ h ≠ g ∧ Gr U wr ∧ wr.ownsRow B0 70 4 (.slice (some ⟨g, 0, none⟩) m cap) m ((boxesW X m).flatMap encL) ∧ wr.ownsRow B0 138 2 (.slice (some ⟨h, 0, none⟩) (k + 1) cp) (k + 1) ((tabW S k).flatMap encT))) (fun i _ _ => n - (intOf i).toNat)
        case atStart => exact Lib.hid ⟨0, B0 + 1, 1, by omega, rfl, rfl, by omega, gW, oA, oK⟩
        case round =>
          clear gW oA oK hg hsz p0 p1
          obtain ⟨k, h, cp, hk, rfl, rfl, hg, gW, oA, oK⟩ := hrel.out
          clear hrel
          obtain ⟨p0, p1⟩ := (hx.keep gW).c2
          by_cases hlt : k < n
          · have c3 : k < S.length := by omega
            have c4 : decide ((k : Int) < 6) = true := by simp; omega
            obtain ⟨v, hv⟩ : ∃ v, S[k]? = some v := ⟨S[k], by simp [c3]⟩
            have hlt2 : lotT S k = v := by unfold lotT; rw [hv]
            obtain ⟨⟨a0, a1⟩, b0, b1⟩ := HS.out v (List.mem_of_getElem? hv)
            obtain ⟨sb, sof, rfl, hsb, v0, v1⟩ := Row2.get (rs.grow gg) hv
            have y0 := gW.keep v0
            have y1 := gW.keep v1
            obtain ⟨d0, d1, e0, e1⟩ := stepW_bd HS.out k
            obtain ⟨dy, kp, hst⟩ : ∃ d q, stepW S k = ⟨d, q⟩ := ⟨_, _, rfl⟩
            have hnx : stepW S (k + 1) = nextW (stepW S k) (lotT S k) := rfl
            rw [hst, hlt2] at hnx
            rw [hst] at d0 d1 e0 e1
            obtain ⟨va, vb⟩ := v
            dsimp only at a0 a1 b0 b1 v0 v1 y0 y1 d0 d1 e0 e1
            have hat0 := tabW_at (S := S) (Nat.le_refl k)
            rw [hst] at hat0
            obtain ⟨ra, rc, hva, tr⟩ := owns_row (enc := encT) (l := tabW S k) (fun _ => rfl) (by rw [tabW_len]; omega) (by rw [tabW_len]; exact oK)
            injection hva with f1 f2 f3
            subst f1
            obtain ⟨b2, o2, f4, _, u0, u1⟩ := TRow.get tr hat0
            injection f4 with f4
            injection f4 with f5 f6 _
            subst f5
            subst f6
            simp only [Nat.zero_add] at u0 u1
            have HN := Lib.hid hnx
            clear hv hlt2 hst hnx hat0 tr f2 f3
            have w0 : IntKind.i64.wrap va = va := IntWalk.i64_in _ (by omega)
            have w1 : IntKind.i64.wrap vb = vb := IntWalk.i64_in _ (by omega)
            have w2 : IntKind.i64.wrap ((k : Int) + 1 - 1) = (k : Int) := by rw [IntWalk.i64_in _ (by omega)]; omega
            have w2' : IntKind.i64.wrap (((k + 1 : Nat) : Int) - 1) = (k : Int) := by rw [IntWalk.i64_in _ (by omega)]; omega
            have w3 : IntKind.i64.wrap (dy + 1) = dy + 1 := IntWalk.i64_in _ (by omega)
            have z0 : va.tmod 60 = va % 60 := Int.tmod_eq_emod_of_nonneg a0
            have w4 : IntKind.i64.wrap (va % 60) = va % 60 := IntWalk.i64_in _ (by omega)
            have w5 : IntKind.i64.wrap (dy + 1 + va % 60) = dy + 1 + va % 60 := IntWalk.i64_in _ (by omega)
            have z1 : vb.tdiv 3 = vb / 3 := Int.tdiv_eq_ediv_of_nonneg b0
            have w6 : IntKind.i64.wrap (vb / 3) = vb / 3 := IntWalk.i64_in _ (by omega)
            have w7 : IntKind.i64.wrap (255 - vb / 3) = 255 - vb / 3 := IntWalk.i64_in _ (by omega)
            have m0 : 0 ≤ kp * (255 - vb / 3) := Int.mul_nonneg e0 (by omega)
            have m1 : kp * (255 - vb / 3) ≤ 1000 * 255 := Int.mul_le_mul e1 (by omega) (by omega) (by omega)
            have w8 : IntKind.i64.wrap (kp * (255 - vb / 3)) = kp * (255 - vb / 3) := IntWalk.i64_in _ (by omega)
            have z2 : (kp * (255 - vb / 3)).tdiv 255 = kp * (255 - vb / 3) / 255 := Int.tdiv_eq_ediv_of_nonneg m0
            have w9 : IntKind.i64.wrap (kp * (255 - vb / 3) / 255) = kp * (255 - vb / 3) / 255 := IntWalk.i64_in _ (by omega)
            have k1 : k + 1 + 1 ≤ maxLen := by unfold maxLen; omega
            have k2 : (k + 1 + 1) * 16 ≤ 140737488355328 := by omega
            go_upto_region 11 with fail
            refine wp_abs (fun Z => Gr wr Z ∧ Box Z wr.heap.size [.int .i64 dy, .int .i64 kp]) ⟨Gr.al wr _, Box.new wr [.int .i64 dy, .int .i64 kp] 138 wr.heap.size rfl⟩ ?_
            rintro Z ⟨gZ, hb⟩
            have hheld : ∀ W, Gr Z W → StepHeld wr.heap.size w.heap.size sb (sof + k * 2) dy kp (.slice (some ⟨sb, sof, none⟩) S.length sc) va vb W := fun W g => ⟨(hb.keep g).2 0 _ rfl, (hb.keep g).2 1 _ rfl, ((gZ.tr g)).keep p1, ((gZ.tr g)).keep y0, ((gZ.tr g)).keep y1⟩
            have hF := hheld _ (Gr.dr Z)
            haveI : Nonempty (AtW (StepHeld wr.heap.size w.heap.size sb (sof + k * 2) dy kp (.slice (some ⟨sb, sof, none⟩) S.length sc) va vb)) := ⟨⟨_, hF⟩⟩
            have x0_ : ∀ u : AtW (StepHeld wr.heap.size w.heap.size sb (sof + k * 2) dy kp (.slice (some ⟨sb, sof, none⟩) S.length sc) va vb), u.val.cell? ⟨wr.heap.size, 0, none⟩ = some (.int .i64 dy) := fun u => u.property.1
            have x1_ : ∀ u : AtW (StepHeld wr.heap.size w.heap.size sb (sof + k * 2) dy kp (.slice (some ⟨sb, sof, none⟩) S.length sc) va vb), u.val.cell? ⟨wr.heap.size, 1, none⟩ = some (.int .i64 kp) := fun u => u.property.2.1
            have x2_ : ∀ u : AtW (StepHeld wr.heap.size w.heap.size sb (sof + k * 2) dy kp (.slice (some ⟨sb, sof, none⟩) S.length sc) va vb), u.val.cell? ⟨w.heap.size, 1, none⟩ = some (.slice (some ⟨sb, sof, none⟩) S.length sc) := fun u => u.property.2.2.1
            have x3_ : ∀ u : AtW (StepHeld wr.heap.size w.heap.size sb (sof + k * 2) dy kp (.slice (some ⟨sb, sof, none⟩) S.length sc) va vb), u.val.cell? ⟨sb, sof + k * 2, none⟩ = some (.int .u8 va) := fun u => u.property.2.2.2.1
            have x4_ : ∀ u : AtW (StepHeld wr.heap.size w.heap.size sb (sof + k * 2) dy kp (.slice (some ⟨sb, sof, none⟩) S.length sc) va vb), u.val.cell? ⟨sb, sof + k * 2 + 1, none⟩ = some (.int .u8 vb) := fun u => u.property.2.2.2.2
            refine wp_region_ord (fun w' => ∃ u : AtW (StepHeld wr.heap.size w.heap.size sb (sof + k * 2) dy kp (.slice (some ⟨sb, sof, none⟩) S.length sc) va vb), w' = u.val) 29 ((List.range' 0 27).map (fun i => (i, true)) ++ [(27, false), (28, false)]) (by kernel_rfl) (by kernel_rfl) ⟨⟨_, hF⟩, rfl⟩ ?_
            refine ord_seg 0 27 (by kernel_rfl) (fun d _ _ _ _ h => by cases d <;> exact h) ?_
            simp only [List.drop_zero, List.take_succ_cons, List.take_zero]
            repeat (go_big_quiet_step (fail))
            refine wpQuiet_nil ?_
            clear x0_ x1_ x2_ x3_ x4_
            refine wpOp_step rfl (fun K' hK => ?_)
            go_simp
            have gB := (Gr.al Z (.cells #[.int .i64 (dy + 1 + va % 60), .int .i64 (kp * (255 - vb / 3) / 255)] 138)).tr (Gr.dr _)
            refine hK _ _ ⟨⟨⟨_, hheld _ gB⟩, rfl⟩, ?_⟩
            clear hK
            refine wpOp_step rfl (fun K' hK => ?_)
            refine step_append_lies _ (by rfl) _ _ 54 (by rfl) B0 138 i1 _ 2 16 Try.underlying54 hj hy0 hy1 hy2 rfl (by decide) (.slice (some ⟨h, 0, none⟩) (k + 1) cp) (k + 1) _ (by rfl) (owns_keep oK (gZ.tr gB)) ⟨Z.heap.size, 0, none⟩ 1 1 ([dy + 1 + va % 60, kp * (255 - vb / 3) / 255].map (fun n => Value.int .i64 n)) (by rfl) (by rfl) (cell_news _ _ _) (ints_one _) (by omega) k1 k2 ?_ _ rfl ?_
            · have := (gW.tr (gZ.tr gB)).size
              omega
            intro h2 cap4 W4 hR4 hgr4 hat4 hlt4
            have gY := (gW.tr (gZ.tr gB)).grown' (owns_keep oK (gZ.tr gB)) (by omega) hgr4
            have hbd := (oA.lt g rfl).2
            have hne : h2 ≠ g := by
              rcases hat4 with q | q
              · simp only [Value.ownBlock, Option.some.injEq] at q
                omega
              · have := (gZ.tr gB).size
                omega
            have oA2 := (owns_keep oA (gZ.tr gB)).kept hgr4 (.inr (by simp only [Value.ownBlock, ne_eq, Option.some.injEq]; omega))
            have hblk : ∀ q, (Value.slice (some ⟨h, 0, none⟩) (k + 1) cp).ownBlock = some q → q = h := fun q e => by simp only [Value.ownBlock, Option.some.injEq] at e; exact e.symm
            have hhB : B0 ≤ h := (oK.lt h rfl).1
            have hh2 : h < wr.heap.size := (oK.lt h rfl).2
            have hb4 := (hb.keep gB).grown hgr4 (fun r hr => by have := hblk r hr; omega)
            refine hK _ _ ⟨⟨⟨_, hb4.2 0 _ rfl, hb4.2 1 _ rfl, (hx.keep gY).2 1 _ rfl, gY.keep v0, gY.keep v1⟩, rfl⟩, ?_⟩
            clear hK hgr4 hat4 hb4
            show wpList _ _ _ (List.drop 29 _) _ _
            simp only [List.drop_succ_cons, List.drop_zero]
            clear w0 w1 w2 w2' w3 w4 w5 w6 w7 w8 w9 z0 z1 z2 m0 m1
            go_wp2
            go_roundw
            case rel =>
              have hR5 : W4.ownsRow B0 138 2 (.slice (some ⟨h2, 0, none⟩) (k + 1 + 1) cap4) (k + 1 + 1) ((tabW S (k + 1)).flatMap encT) := by
                rw [tabW_succ, HN.out, flat_snoc]
                exact hR4
              first | exact Lib.hid ⟨k + 1, h2, cap4, by omega, by go_num, rfl, hne, gY, oA2, hR5⟩ | exact Lib.hid ⟨k + 1, by omega, by go_num, h2, cap4, ⟨rfl, rfl, rfl⟩, hne, hR5⟩
            case measure => simp [intOf]; omega
          · obtain rfl : n = k := by omega
            clear hlt hk
            obtain ⟨ra, rc, hva, rA, _, hcA⟩ := owns_row_cap (enc := encL) (l := boxesW X m) (fun _ => rfl) (by rw [boxesW_len (by omega)]; omega) (by rw [boxesW_len (by omega)]; exact oA)
            obtain ⟨rb, rd, hvb, rK, _, hcK⟩ := owns_row_cap (enc := encT) (l := tabW S n) (fun _ => rfl) (by rw [tabW_len]; omega) (by rw [tabW_len]; exact oK)
            rw [boxesW_len (by omega)] at hva hcA
            rw [tabW_len] at hvb hcK
            injection hva with f1 f2 f3
            subst f1
            subst f3
            injection hvb with f4 f5 f6
            subst f4
            subst f6
            clear f2 f5 oA oK
            by_cases c3 : n < S.length
            · have c4 : decide ((n : Int) < 6) = false := by simp; omega
              go_wp2
              go_ret2
              exact ⟨g, cap, h, cp, rfl, rA, rK, hcA, hcK, gg.tr gW⟩
            · go_wp2
              go_ret2
              exact ⟨g, cap, h, cp, rfl, rA, rK, hcA, hcK, gg.tr gW⟩

end Go.Proofs.Ytcdilmagcdbogaa

namespace Go.Proofs.Ytcdilmagcdbogaa
set_option linter.unusedVariables false
set_option linter.unusedSimpArgs false
open Go.RowKit

set_option maxRecDepth 100000 in
set_option maxHeartbeats 400000 in
/-- A copy of boxes. -/
theorem lboxes_any (l : List Ld) (hl : l.length ≤ 1000) (b off cap : Nat) (w : World) (hr : LRow w (some ⟨b, off, none⟩) l) :
    Calls Try.prog 35 #[.slice (some ⟨b, off, none⟩) l.length cap] w fun e w' => ∃ v, e = .returned v ∧ w'.ownsRow w.heap.size 70 4 v l.length (l.flatMap encL) ∧ Gr w w' := by
  obtain ⟨i0, hi, hz0, hz1, hz2⟩ := info_parts infoLd
  have hr1 := hr.grow (Gr.al w (.cells #[] 70))
  have h1 : 0 + l.length ≤ maxLen := by unfold maxLen; omega
  have h2 : (0 + l.length) * 32 ≤ 140737488355328 := by omega
  have hfl := flat_len (enc := encL) (sz := 4) (fun _ => rfl) l
  have hnews := row_news (enc := encL) (sz := 4) (fun _ => rfl) hr1
  have Hfl := Lib.hid hfl
  have Hnews := Lib.hid hnews
  clear hfl hnews
  go_enter Try.func35, Try.ntmps35
  go_wp2_with (at_builtin; refine wpList_append_own _ rfl _ _ 53 rfl w.heap.size 70 i0 _ 4 32 Try.underlying53 hi hz0 hz1 hz2 rfl (by decide) _ _ _ rfl (owns_empty w _ _) ⟨b, off, none⟩ l.length cap (l.flatMap encL) rfl Hfl.out Hnews.out (one_flat (fun x u hu => by simp [encL] at hu; rcases hu with rfl | rfl | rfl | rfl <;> rfl) l) h1 h2 (by simp) ?_; intro v' w1 hown hgrow _)
  have Ho := Lib.hid (show w1.ownsRow w.heap.size 70 4 v' l.length (l.flatMap encL) by simpa using hown)
  clear hown
  go_wp2
  go_ret
  exact ⟨v', rfl, Ho.out, (Gr.al w _).grown' (owns_empty w _ 4) (Nat.le_refl _) hgrow⟩

set_option maxRecDepth 100000 in
set_option maxHeartbeats 400000 in
/-- A copy of a table. -/
theorem lsteps_any (l : List Stp) (hl : l.length ≤ 1000) (b off cap : Nat) (w : World) (hr : TRow w (some ⟨b, off, none⟩) l) :
    Calls Try.prog 36 #[.slice (some ⟨b, off, none⟩) l.length cap] w fun e w' => ∃ v, e = .returned v ∧ w'.ownsRow w.heap.size 138 2 v l.length (l.flatMap encT) ∧ Gr w w' := by
  obtain ⟨i0, hi, hz0, hz1, hz2⟩ := info_parts infoSt2
  have hr1 := hr.grow (Gr.al w (.cells #[] 138))
  have h1 : 0 + l.length ≤ maxLen := by unfold maxLen; omega
  have h2 : (0 + l.length) * 16 ≤ 140737488355328 := by omega
  have hfl := flat_len (enc := encT) (sz := 2) (fun _ => rfl) l
  have hnews := row_news (enc := encT) (sz := 2) (fun _ => rfl) hr1
  have Hfl := Lib.hid hfl
  have Hnews := Lib.hid hnews
  clear hfl hnews
  go_enter Try.func36, Try.ntmps36
  go_wp2_with (at_builtin; refine wpList_append_own _ rfl _ _ 54 rfl w.heap.size 138 i0 _ 2 16 Try.underlying54 hi hz0 hz1 hz2 rfl (by decide) _ _ _ rfl (owns_empty w _ _) ⟨b, off, none⟩ l.length cap (l.flatMap encT) rfl Hfl.out Hnews.out (one_flat (fun x u hu => by simp [encT] at hu; rcases hu with rfl | rfl <;> rfl) l) h1 h2 (by simp) ?_; intro v' w1 hown hgrow _)
  have Ho := Lib.hid (show w1.ownsRow w.heap.size 138 2 v' l.length (l.flatMap encT) by simpa using hown)
  clear hown
  go_wp2
  go_ret
  exact ⟨v', rfl, Ho.out, (Gr.al w _).grown' (owns_empty w _ 2) (Nat.le_refl _) hgrow⟩

/-- A byte of a list, used again and again. -/
def byteW (Y : List Int) (i : Nat) : Int := Y.getD (i % Y.length) 0

theorem byteW_bd {Y : List Int} (h : Bytes Y) (i : Nat) : 0 ≤ byteW Y i ∧ byteW Y i ≤ 255 := by
  unfold byteW
  rw [List.getD_eq_getElem?_getD]
  cases hx : Y[i % Y.length]? with
  | none => simp
  | some x => exact h x (List.mem_of_getElem? hx)

set_option maxRecDepth 100000 in
theorem lbyteOf_any (Y : List Int) (hY : Bytes Y) (i : Nat) (hi : i ≤ 1000000) (ya : Option Addr) (yc : Nat) (w : World) (ry : URow w ya Y) :
    Calls Try.prog 55 #[.slice ya Y.length yc, .int .i64 (i : Int)] w fun e w' => e = .returned (.int .i64 (byteW Y i)) ∧ Gr w w' := by
  have hl := ry.1
  by_cases h0 : Y.length = 0
  · have E := Lib.hid (show byteW Y i = 0 by
      have : Y = [] := List.eq_nil_of_length_eq_zero h0
      subst this
      rfl)
    have d0 : ((Y.length : Int) == 0) = true := by simp [h0]
    go_enter Try.func55, Try.ntmps55
    go_wp2
    go_ret
    exact ⟨by rw [E.out]; rfl, Below.refl _ _⟩
  · have hlt : i % Y.length < Y.length := Nat.mod_lt _ (by omega)
    obtain ⟨x, hx⟩ : ∃ x, Y[i % Y.length]? = some x := ⟨_, List.getElem?_eq_getElem hlt⟩
    obtain ⟨x0, x1⟩ := hY x (List.mem_of_getElem? hx)
    have E := Lib.hid (show byteW Y i = x by unfold byteW; rw [List.getD_eq_getElem?_getD, hx]; rfl)
    obtain ⟨b, off, rfl, hb, hc⟩ := URow.get ry hx
    have d0 : ((Y.length : Int) == 0) = false := by rw [beq_eq_false_iff_ne]; omega
    have d1 : ¬ (Y.length : Int) = 0 := by omega
    obtain ⟨m, hm⟩ : ∃ m, i % Y.length = m := ⟨_, rfl⟩
    have z0 : (i : Int).tmod (Y.length : Int) = (m : Int) := by rw [Int.tmod_eq_emod_of_nonneg (by omega), ← hm]; rfl
    have w0 : IntKind.i64.wrap (m : Int) = (m : Int) := IntWalk.i64_in _ (by omega)
    have w1 : IntKind.i64.wrap x = x := IntWalk.i64_in _ (by omega)
    rw [hm] at hlt hc
    clear hm hx h0
    go_enter Try.func55, Try.ntmps55
    go_wp2
    go_ret
    exact ⟨by rw [E.out]; rfl, Below.refl _ _⟩

end Go.Proofs.Ytcdilmagcdbogaa

namespace Go.Proofs.Ytcdilmagcdbogaa
set_option linter.unusedVariables false
set_option linter.unusedSimpArgs false
open Go.RowKit

theorem IRow.cell4 {w : World} {b off : Nat} {l : List Int} (h : IRow w (some ⟨b, off, none⟩) l) {j : Nat} {x : Int} (hx : l[j]? = some x) : w.cell? ⟨b, off + j, none⟩ = some (.int .i64 x) := by
  obtain ⟨b', off', e, _, hc⟩ := IRow.get h hx
  injection e with e
  injection e with e1 e2 _
  subst e1
  subst e2
  exact hc

/-- What is kept on a day, by the first so many steps. -/
def keptTo (t : List Stp) (day : Int) : Nat → Int
  | 0 => 0
  | k + 1 => match t[k]? with
    | some s => if s.day ≤ day then s.keep else keptTo t day k
    | none => keptTo t day k

theorem keptTo_succ {t : List Stp} {day : Int} {k : Nat} {s : Stp} (h : t[k]? = some s) : keptTo t day (k + 1) = if s.day ≤ day then s.keep else keptTo t day k := by
  show (match t[k]? with
    | some s => if s.day ≤ day then s.keep else keptTo t day k
    | none => keptTo t day k) = _
  rw [h]

theorem keptTo_bd {t : List Stp} (h : ∀ s ∈ t, 0 ≤ s.keep ∧ s.keep ≤ 1000) (day : Int) : ∀ k, 0 ≤ keptTo t day k ∧ keptTo t day k ≤ 1000
  | 0 => by simp [keptTo]
  | k + 1 => by
    have ih := keptTo_bd h day k
    cases hs : t[k]? with
    | none =>
      have e : keptTo t day (k + 1) = keptTo t day k := by
        show (match t[k]? with
          | some s => if s.day ≤ day then s.keep else keptTo t day k
          | none => keptTo t day k) = _
        rw [hs]
      rw [e]
      exact ih
    | some s =>
      rw [keptTo_succ hs]
      split
      · exact h s (List.mem_of_getElem? hs)
      · exact ih

/-- So many weights from a box on. -/
def sumT (h : List Int) (a : Nat) : Nat → Int
  | 0 => 0
  | n + 1 => sumT h a n + h.getD (a + n) 0

theorem sumT_bd {h : List Int} (hh : ∀ x ∈ h, 0 ≤ x ∧ x ≤ 1000) (a : Nat) : ∀ n : Nat, 0 ≤ sumT h a n ∧ sumT h a n ≤ 1000 * (n : Int)
  | 0 => by simp [sumT]
  | n + 1 => by
    have ih := sumT_bd hh a n
    have hx : 0 ≤ h.getD (a + n) 0 ∧ h.getD (a + n) 0 ≤ 1000 := by
      rw [List.getD_eq_getElem?_getD]
      cases hc : h[a + n]? with
      | none => simp
      | some x => exact hh x (List.mem_of_getElem? hc)
    unfold sumT
    omega

/-- Whether a box does not hold, by true strengths and weights. -/
def weakS (strong heavy : List Int) (k : Int) (i : Nat) : Bool := decide (strong.getD i 0 * k / 1000 < sumT heavy (i + 1) (heavy.length - (i + 1)))

def staysO (strong heavy : List Int) (k : Int) : Option Nat := (List.range strong.length).find? (weakS strong heavy k)

def staysV (strong heavy : List Int) (k : Int) : Value := match staysO strong heavy k with
  | none => .tuple #[.bool true, .int .i64 0]
  | some i => .tuple #[.bool false, .int .i64 (i : Int)]

set_option maxRecDepth 100000 in
set_option maxHeartbeats 4000000 in
theorem stays_any (strong heavy : List Int) (t : List Stp) (day : Int) (hs : ∀ x ∈ strong, 0 ≤ x ∧ x ≤ 2000) (hh : ∀ x ∈ heavy, 0 ≤ x ∧ x ≤ 1000) (ht : ∀ s ∈ t, 0 ≤ s.keep ∧ s.keep ≤ 1000) (hn : heavy.length ≤ 100) (hn2 : strong.length ≤ 100) (sa ha ta : Option Addr) (sc hc tc : Nat) (w : World) (rs : IRow w sa strong) (rh : IRow w ha heavy) (rt : TRow w ta t) :
    Calls Try.prog 56 #[.slice sa strong.length sc, .slice ha heavy.length hc, .slice ta t.length tc, .int .i64 day] w fun e w' => e = .returned (staysV strong heavy (keptTo t day t.length)) ∧ Gr w w' := by
  have ht0 := rt.1
  have HH := Lib.hid hh
  have HS := Lib.hid hs
  have HT := Lib.hid (keptTo_bd ht day)
  clear hh hs ht
  go_enter Try.func56, Try.ntmps56
  go_wp2
  go_loopw [11, 10] (fun i q wr => Hid (∃ k : Nat, k ≤ t.length ∧ i = .int .i64 k ∧ q = .int .i64 (keptTo t day k) ∧ Gr w wr)) (fun i _ _ => t.length - (intOf i).toNat)
  case atStart => exact Lib.hid ⟨0, Nat.zero_le _, rfl, rfl, Below.refl _ _⟩
  case round =>
    obtain ⟨k, hk, rfl, rfl, gW⟩ := hrel.out
    clear hrel
    by_cases hlt : k < t.length
    · obtain ⟨⟨sd, sk⟩, hx⟩ : ∃ s, t[k]? = some s := ⟨t[k], by simp [hlt]⟩
      obtain ⟨b1, o1, rfl, h1, c0, c1⟩ := TRow.get (rt.grow gW) hx
      dsimp only at c0 c1
      have hn1 := keptTo_succ (day := day) hx
      dsimp only at hn1
      by_cases hd : sd ≤ day
      · rw [if_pos hd] at hn1
        have HN := Lib.hid hn1
        clear hn1 hx
        go_wp2
        go_roundw
        case rel => exact Lib.hid ⟨k + 1, by omega, by go_num, by rw [HN.out], gW⟩
        case measure => simp [intOf]; omega
      · rw [if_neg hd] at hn1
        have HN := Lib.hid hn1
        have hd2 : decide (sd ≤ day) = false := by simpa using hd
        clear hn1 hx
        go_wp2
        go_roundw
        case rel => exact Lib.hid ⟨k + 1, by omega, by go_num, by rw [HN.out], gW⟩
        case measure => simp [intOf]; omega
    · obtain rfl : k = t.length := by omega
      obtain ⟨q0, q1⟩ := HT.out t.length
      obtain ⟨q, hq⟩ : ∃ q, keptTo t day t.length = q := ⟨_, rfl⟩
      rw [hq] at q0 q1 ⊢
      have HQ := Lib.hid hq
      clear hq hlt hk HT
      go_wp2
      go_loopw [12] (fun i wr => Hid (∃ k : Nat, k ≤ strong.length ∧ i = .int .i64 k ∧ Gr w wr ∧ ∀ j, j < k → weakS strong heavy q j = false)) (fun i _ => strong.length - (intOf i).toNat)
      case atStart => exact Lib.hid ⟨0, Nat.zero_le _, rfl, gW, fun j hj => by omega⟩
      case round =>
        clear gW
        obtain ⟨k, hk, rfl, gW, hp⟩ := hrel.out
        clear hrel
        have HP := Lib.hid hp
        clear hp
        by_cases hlt : k < strong.length
        · obtain ⟨x, hx⟩ : ∃ x, strong[k]? = some x := ⟨strong[k], by simp [hlt]⟩
          obtain ⟨x0, x1⟩ := HS.out x (List.mem_of_getElem? hx)
          have hgx : strong.getD k 0 = x := by rw [List.getD_eq_getElem?_getD, hx]; rfl
          obtain ⟨bs, os, rfl, _, cs⟩ := IRow.get (rs.grow gW) hx
          have HX := Lib.hid hx
          clear hx
          go_wp2
          go_loopw [14, 13] (fun i s wr => Hid (∃ n : Nat, (n = 0 ∨ k + 1 + n ≤ heavy.length) ∧ i = .int .i64 ((k + 1 + n : Nat) : Int) ∧ s = .int .i64 (sumT heavy (k + 1) n) ∧ Gr w wr)) (fun i _ _ => heavy.length - (intOf i).toNat)
          case atStart => exact Lib.hid ⟨0, .inl rfl, by go_num, rfl, gW⟩
          case round =>
            clear gW cs
            obtain ⟨n, hn', rfl, rfl, gW⟩ := hrel.out
            clear hrel
            obtain ⟨s0, s1⟩ := sumT_bd HH.out (k + 1) n
            obtain ⟨M, hM⟩ : ∃ M, k + 1 + n = M := ⟨_, rfl⟩
            rw [hM]
            by_cases hlt2 : M < heavy.length
            · obtain ⟨y, hy⟩ : ∃ y, heavy[M]? = some y := ⟨heavy[M], by simp [hlt2]⟩
              obtain ⟨y0, y1⟩ := HH.out y (List.mem_of_getElem? hy)
              obtain ⟨bh, oh, rfl, _, ch⟩ := IRow.get (rh.grow gW) hy
              have hsn := Lib.hid (show sumT heavy (k + 1) (n + 1) = sumT heavy (k + 1) n + y by
                show sumT heavy (k + 1) n + heavy.getD (k + 1 + n) 0 = _
                rw [hM, List.getD_eq_getElem?_getD, hy]
                rfl)
              clear hy
              generalize sumT heavy (k + 1) n = Sm at *
              have ws : IntKind.i64.wrap (Sm + y) = Sm + y := IntWalk.i64_in _ (by omega)
              have hM2 : k + 1 + n ≤ M ∧ M ≤ k + 1 + n := by omega
              clear hM
              go_wp2
              go_roundw
              case rel => exact Lib.hid ⟨n + 1, .inr (by omega), by go_num, by rw [hsn.out], gW⟩
              case measure => simp [intOf]; omega
            · have hlen : n = heavy.length - (k + 1) := by omega
              have hW : weakS strong heavy q k = decide (x * q / 1000 < sumT heavy (k + 1) n) := by
                unfold weakS
                rw [hgx, ← hlen]
              obtain ⟨Sm, hSm⟩ : ∃ Sm, sumT heavy (k + 1) n = Sm := ⟨_, rfl⟩
              rw [hSm] at hW ⊢
              have m0 : 0 ≤ x * q := Int.mul_nonneg x0 q0
              have m1 : x * q ≤ 2000 * 1000 := Int.mul_le_mul x1 q1 q0 (by omega)
              have w0 : IntKind.i64.wrap (x * q) = x * q := IntWalk.i64_in _ (by omega)
              have z0 : (x * q).tdiv 1000 = x * q / 1000 := Int.tdiv_eq_ediv_of_nonneg m0
              have w1 : IntKind.i64.wrap (x * q / 1000) = x * q / 1000 := IntWalk.i64_in _ (by omega)
              have cs := IRow.cell4 (rs.grow gW) HX.out
              have hM2 : k + 1 + n ≤ M ∧ M ≤ k + 1 + n := by omega
              clear hM hlen hSm hgx
              by_cases hwk : x * q / 1000 < Sm
              · have hwt : weakS strong heavy q k = true := by rw [hW]; simpa using hwk
                have E := Lib.hid (show staysV strong heavy q = .tuple #[.bool false, .int .i64 (k : Int)] by
                  have : staysO strong heavy q = some k := by
                    unfold staysO
                    rw [List.find?_range_eq_some]
                    exact ⟨hwt, List.mem_range.2 hlt, fun j hj => by rw [HP.out j hj]; rfl⟩
                  unfold staysV
                  rw [this])
                clear hW hwt
                go_wp2
                rw [HQ.out, E.out]
                go_ret2
                exact ⟨rfl, gW⟩
              · have hwf : weakS strong heavy q k = false := by rw [hW]; simpa using hwk
                have hwd : decide (x * q / 1000 < Sm) = false := by simpa using hwk
                have HP2 := Lib.hid (show ∀ j, j < k + 1 → weakS strong heavy q j = false from fun j hj => by
                  rcases Nat.lt_or_ge j k with h | h
                  · exact HP.out j h
                  · obtain rfl : j = k := by omega
                    exact hwf)
                clear hW hwf
                go_wp2
                go_roundw
                case rel => exact Lib.hid ⟨k + 1, by omega, by go_num, gW, HP2.out⟩
                case measure => simp [intOf]; omega
        · obtain rfl : k = strong.length := by omega
          have E := Lib.hid (show staysV strong heavy q = .tuple #[.bool true, .int .i64 0] by
            have : staysO strong heavy q = none := by
              unfold staysO
              rw [List.find?_range_eq_none]
              intro i hi
              rw [HP.out i hi]
              rfl
            unfold staysV
            rw [this])
          go_wp2
          rw [HQ.out, E.out]
          go_ret2
          exact ⟨rfl, gW⟩

end Go.Proofs.Ytcdilmagcdbogaa

namespace Go.Proofs.Ytcdilmagcdbogaa
set_option linter.unusedVariables false
set_option linter.unusedSimpArgs false
open Go.RowKit

/-- The true strength and the true weight of a box, by bytes. -/
def strAt (l : List Ld) (Y : List Int) (i : Nat) : Int := match l[i]? with
  | some x => x.sl + byteW Y (2 * i) * (x.sh - x.sl) / 255
  | none => 0

def hvyAt (l : List Ld) (Y : List Int) (i : Nat) : Int := match l[i]? with
  | some x => x.wl + byteW Y (2 * i + 1) * (x.wh - x.wl) / 255
  | none => 0

def strT (l : List Ld) (Y : List Int) (k : Nat) : List Int := (List.range k).map (strAt l Y)

def hvyT (l : List Ld) (Y : List Int) (k : Nat) : List Int := (List.range k).map (hvyAt l Y)

def weakT (l : List Ld) (k : Nat) : List Int := (l.take k).map Ld.sl

def mostT (l : List Ld) (k : Nat) : List Int := (l.take k).map Ld.wh

theorem strT_len (l : List Ld) (Y : List Int) (k : Nat) : (strT l Y k).length = k := by simp [strT]

theorem hvyT_len (l : List Ld) (Y : List Int) (k : Nat) : (hvyT l Y k).length = k := by simp [hvyT]

theorem weakT_len {l : List Ld} {k : Nat} (h : k ≤ l.length) : (weakT l k).length = k := by simp [weakT]; omega

theorem mostT_len {l : List Ld} {k : Nat} (h : k ≤ l.length) : (mostT l k).length = k := by simp [mostT]; omega

theorem strT_succ (l : List Ld) (Y : List Int) (k : Nat) : strT l Y (k + 1) = strT l Y k ++ [strAt l Y k] := by simp [strT, List.range_succ]

theorem hvyT_succ (l : List Ld) (Y : List Int) (k : Nat) : hvyT l Y (k + 1) = hvyT l Y k ++ [hvyAt l Y k] := by simp [hvyT, List.range_succ]

theorem weakT_succ {l : List Ld} {k : Nat} {x : Ld} (h : l[k]? = some x) : weakT l (k + 1) = weakT l k ++ [x.sl] := by unfold weakT; rw [List.take_add_one, h]; simp

theorem mostT_succ {l : List Ld} {k : Nat} {x : Ld} (h : l[k]? = some x) : mostT l (k + 1) = mostT l k ++ [x.wh] := by unfold mostT; rw [List.take_add_one, h]; simp

theorem frac_bd {a b y : Int} (h : a ≤ b) (y0 : 0 ≤ y) (y1 : y ≤ 255) : 0 ≤ y * (b - a) / 255 ∧ y * (b - a) / 255 ≤ b - a := by
  have h1 : 0 ≤ y * (b - a) := Int.mul_nonneg y0 (by omega)
  have h2 : y * (b - a) ≤ 255 * (b - a) := Int.mul_le_mul_of_nonneg_right y1 (by omega)
  omega

theorem strAt_bd {l : List Ld} {Y : List Int} (hY : Bytes Y) {i : Nat} {x : Ld} (h : l[i]? = some x) (hx : x.sl ≤ x.sh) : x.sl ≤ strAt l Y i ∧ strAt l Y i ≤ x.sh := by
  have hb := byteW_bd hY (2 * i)
  have := frac_bd hx hb.1 hb.2
  unfold strAt
  rw [h]
  dsimp only
  omega

theorem hvyAt_bd {l : List Ld} {Y : List Int} (hY : Bytes Y) {i : Nat} {x : Ld} (h : l[i]? = some x) (hx : x.wl ≤ x.wh) : x.wl ≤ hvyAt l Y i ∧ hvyAt l Y i ≤ x.wh := by
  have hb := byteW_bd hY (2 * i + 1)
  have := frac_bd hx hb.1 hb.2
  unfold hvyAt
  rw [h]
  dsimp only
  omega

theorem strT_at {l : List Ld} {Y : List Int} {k i : Nat} (h : i < k) : (strT l Y k)[i]? = some (strAt l Y i) := by
  unfold strT
  rw [List.getElem?_map, List.getElem?_range h]
  rfl

theorem hvyT_at {l : List Ld} {Y : List Int} {k i : Nat} (h : i < k) : (hvyT l Y k)[i]? = some (hvyAt l Y i) := by
  unfold hvyT
  rw [List.getElem?_map, List.getElem?_range h]
  rfl

theorem weakT_at {l : List Ld} {k i : Nat} {x : Ld} (hi : i < k) (h : l[i]? = some x) : (weakT l k)[i]? = some x.sl := by
  unfold weakT
  rw [List.getElem?_map, List.getElem?_take_of_lt hi, h]
  rfl

theorem mostT_at {l : List Ld} {k i : Nat} {x : Ld} (hi : i < k) (h : l[i]? = some x) : (mostT l k)[i]? = some x.wh := by
  unfold mostT
  rw [List.getElem?_map, List.getElem?_take_of_lt hi, h]
  rfl

theorem getD_of {h : List Int} {i : Nat} {x : Int} (e : h[i]? = some x) : h.getD i 0 = x := by rw [List.getD_eq_getElem?_getD, e]; rfl

/-- Sums of weights lie between the loads. -/
theorem sumT_most (l : List Ld) (a : Nat) : ∀ n : Nat, a + n ≤ l.length → sumT (mostT l l.length) a n = sumHi ((l.drop a).take n)
  | 0, _ => by simp [sumT, sumHi]
  | n + 1, h => by
    have ih := sumT_most l a n (by omega)
    obtain ⟨x, hx⟩ : ∃ x, l[a + n]? = some x := ⟨l[a + n], by simp⟩
    have h1 : (l.drop a)[n]? = some x := by rw [List.getElem?_drop]; exact hx
    have h2 := sum_take h1
    unfold sumT
    rw [ih, h2.2, getD_of (mostT_at (by omega) hx)]

theorem sumT_true (l : List Ld) (Y : List Int) (hY : Bytes Y) (hl : ∀ x ∈ l, x.wl ≤ x.wh) (a : Nat) : ∀ n : Nat, a + n ≤ l.length → sumLo ((l.drop a).take n) ≤ sumT (hvyT l Y l.length) a n ∧ sumT (hvyT l Y l.length) a n ≤ sumHi ((l.drop a).take n)
  | 0, _ => by simp [sumT, sumHi, sumLo]
  | n + 1, h => by
    have ih := sumT_true l Y hY hl a n (by omega)
    obtain ⟨x, hx⟩ : ∃ x, l[a + n]? = some x := ⟨l[a + n], by simp⟩
    have h1 : (l.drop a)[n]? = some x := by rw [List.getElem?_drop]; exact hx
    have h2 := sum_take h1
    have h3 := hvyAt_bd hY hx (hl x (List.mem_of_getElem? hx))
    unfold sumT
    rw [h2.1, h2.2, getD_of (hvyT_at (l := l) (Y := Y) (by omega))]
    omega

theorem take_all (l : List Ld) (a : Nat) : (l.drop a).take (l.length - a) = l.drop a := List.take_of_length_le (by simp)

theorem weakS_weakAt {l : List Ld} {q : Int} {i : Nat} (hi : i < l.length) : weakS (weakT l l.length) (mostT l l.length) q i = weakAt l q i := by
  obtain ⟨x, hx⟩ : ∃ x, l[i]? = some x := ⟨l[i], by simp [hi]⟩
  unfold weakS weakAt
  rw [hx, getD_of (weakT_at hi hx), mostT_len (Nat.le_refl _), sumT_most l (i + 1) (l.length - (i + 1)) (by omega), take_all]

theorem find_range {p q : Nat → Bool} {n : Nat} (h : ∀ i, i < n → p i = q i) : (List.range n).find? p = (List.range n).find? q := find_congr (fun x hx => h x (List.mem_range.1 hx))

theorem stays_worst (l : List Ld) (q : Int) : staysO (weakT l l.length) (mostT l l.length) q = weakO l q := by
  unfold staysO weakO
  rw [weakT_len (Nat.le_refl _)]
  exact find_range (fun i hi => weakS_weakAt hi)

theorem weakO_at {l : List Ld} {q : Int} (h : weakO l q = none) {i : Nat} (hi : i < l.length) : weakAt l q i = false := by
  unfold weakO at h
  rw [List.find?_range_eq_none] at h
  have := h i hi
  simpa using this

theorem stays_true (l : List Ld) (Y : List Int) (hY : Bytes Y) (hl : ∀ x ∈ l, x.sl ≤ x.sh ∧ x.wl ≤ x.wh) (q : Int) (q0 : 0 ≤ q) (h : weakO l q = none) : staysO (strT l Y l.length) (hvyT l Y l.length) q = none := by
  unfold staysO
  rw [strT_len, List.find?_range_eq_none]
  intro i hi
  obtain ⟨x, hx⟩ : ∃ x, l[i]? = some x := ⟨l[i], by simp [hi]⟩
  have h1 := weakO_at h hi
  unfold weakAt at h1
  rw [hx] at h1
  simp only [decide_eq_false_iff_not] at h1
  have hm := List.mem_of_getElem? hx
  have h2 := strAt_bd hY hx (hl x hm).1
  have h3 := (sumT_true l Y hY (fun x hx => (hl x hx).2) (i + 1) (l.length - (i + 1)) (by omega)).2
  rw [take_all] at h3
  have h4 : x.sl * q ≤ strAt l Y i * q := Int.mul_le_mul_of_nonneg_right h2.1 q0
  have h5 : x.sl * q / 1000 ≤ strAt l Y i * q / 1000 := Int.ediv_le_ediv (by omega) h4
  unfold weakS
  rw [getD_of (strT_at hi), hvyT_len]
  simp only [Bool.not_eq_true', decide_eq_false_iff_not]
  omega

theorem sumT_front (h : List Int) (a : Nat) : ∀ n : Nat, sumT h a (n + 1) = sumT h (a + 1) n + h.getD a 0
  | 0 => by simp [sumT]
  | n + 1 => by
    have ih := sumT_front h a n
    rw [sumT, ih, sumT, show a + 1 + n = a + (n + 1) by omega]
    omega

theorem strT_bd {l : List Ld} {Y : List Int} (hY : Bytes Y) (hl : ∀ x ∈ l, LdOk x ∧ x.sl ≤ x.sh ∧ x.wl ≤ x.wh ∧ x.sh ≤ 1069 ∧ x.wh ≤ 284) : ∀ y ∈ strT l Y l.length, 0 ≤ y ∧ y ≤ 2000 := by
  intro y hy
  simp only [strT, List.mem_map, List.mem_range] at hy
  obtain ⟨i, hi, rfl⟩ := hy
  obtain ⟨x, hx⟩ : ∃ x, l[i]? = some x := ⟨l[i], by simp [hi]⟩
  obtain ⟨⟨_, p, _⟩, q, _, r, _⟩ := hl x (List.mem_of_getElem? hx)
  have := strAt_bd hY hx q
  omega

theorem hvyT_bd {l : List Ld} {Y : List Int} (hY : Bytes Y) (hl : ∀ x ∈ l, LdOk x ∧ x.sl ≤ x.sh ∧ x.wl ≤ x.wh ∧ x.sh ≤ 1069 ∧ x.wh ≤ 284) : ∀ y ∈ hvyT l Y l.length, 0 ≤ y ∧ y ≤ 1000 := by
  intro y hy
  simp only [hvyT, List.mem_map, List.mem_range] at hy
  obtain ⟨i, hi, rfl⟩ := hy
  obtain ⟨x, hx⟩ : ∃ x, l[i]? = some x := ⟨l[i], by simp [hi]⟩
  obtain ⟨⟨⟨p, _⟩, _⟩, _, q, _, r⟩ := hl x (List.mem_of_getElem? hx)
  have := hvyAt_bd hY hx q
  omega

theorem weakT_bd {l : List Ld} (hl : ∀ x ∈ l, LdOk x ∧ x.sl ≤ x.sh ∧ x.wl ≤ x.wh ∧ x.sh ≤ 1069 ∧ x.wh ≤ 284) : ∀ y ∈ weakT l l.length, 0 ≤ y ∧ y ≤ 2000 := by
  intro y hy
  simp only [weakT, List.take_length, List.mem_map] at hy
  obtain ⟨x, hx, rfl⟩ := hy
  obtain ⟨⟨_, p, _⟩, q, _, r, _⟩ := hl x hx
  omega

theorem mostT_bd {l : List Ld} (hl : ∀ x ∈ l, LdOk x ∧ x.sl ≤ x.sh ∧ x.wl ≤ x.wh ∧ x.sh ≤ 1069 ∧ x.wh ≤ 284) : ∀ y ∈ mostT l l.length, 0 ≤ y ∧ y ≤ 1000 := by
  intro y hy
  simp only [mostT, List.take_length, List.mem_map] at hy
  obtain ⟨x, hx, rfl⟩ := hy
  obtain ⟨⟨⟨p, _⟩, _⟩, _, q, _, r⟩ := hl x hx
  omega

theorem staysV_none {s h : List Int} {q : Int} (e : staysO s h q = none) : staysV s h q = .tuple #[.bool true, .int .i64 0] := by unfold staysV; rw [e]

theorem staysV_some {s h : List Int} {q : Int} {i : Nat} (e : staysO s h q = some i) : staysV s h q = .tuple #[.bool false, .int .i64 (i : Int)] := by unfold staysV; rw [e]

theorem fallV_none {l : List Ld} {t : List Stp} {days : Int} (h : fallO l (untilL t days) = none) : fallV l t days = .tuple #[.int .i64 0, .int .i64 0, .int .i64 7] := by unfold fallV; rw [h]

theorem fallV_some {l : List Ld} {t : List Stp} {days : Int} {s : Stp} {i : Nat} (h : fallO l (untilL t days) = some (s, i)) : fallV l t days = .tuple #[.int .i64 s.day, .int .i64 (i : Int), .int .i64 0] := by unfold fallV; rw [h]

theorem spans_at {l : List Ld} {m : Nat} (h : m < l.length) : (spansL l)[m]? = some ⟨sumLo (l.drop (m + 1)), sumHi (l.drop (m + 1))⟩ := by
  unfold spansL
  rw [List.getElem?_map, loadsL_at h]
  rfl

theorem weakO_lt {l : List Ld} {q : Int} {i : Nat} (h : weakO l q = some i) : i < l.length := by
  unfold weakO at h
  exact List.mem_range.1 (List.mem_of_find?_eq_some h)

/-- What is kept on a day, in a table of steps that ascend. -/
theorem stepW_mono {S : List V2} (h : ∀ v ∈ S, B2 v) (j : Nat) : ∀ n : Nat, (stepW S j).day + (n : Int) ≤ (stepW S (j + n)).day
  | 0 => by simp
  | n + 1 => by
    have := stepW_mono h j n
    have := stepW_next h (j + n)
    rw [show j + (n + 1) = j + n + 1 from rfl]
    omega

theorem stepW_lt {S : List V2} (h : ∀ v ∈ S, B2 v) {j k : Nat} (hjk : j < k) : (stepW S j).day < (stepW S k).day := by
  have := stepW_mono h j (k - j)
  rw [show j + (k - j) = k by omega] at this
  omega

theorem kept_at {S : List V2} {n k : Nat} {d : Int} (hk : k ≤ n) (h1 : (stepW S k).day ≤ d) (h2 : ∀ j, k < j → j ≤ n → d < (stepW S j).day) : keptTo (tabW S n) d (tabW S n).length = (stepW S k).keep := by
  have key : ∀ m : Nat, k + 1 + m ≤ n + 1 → keptTo (tabW S n) d (k + 1 + m) = (stepW S k).keep := by
    intro m
    induction m with
    | zero =>
      intro hm
      rw [Nat.add_zero, keptTo_succ (tabW_at hk), if_pos h1]
    | succ m ih =>
      intro hm
      rw [show k + 1 + (m + 1) = k + 1 + m + 1 from rfl, keptTo_succ (tabW_at (by omega)), if_neg (by have := h2 (k + 1 + m) (by omega) (by omega); omega)]
      exact ih (by omega)
  rw [tabW_len]
  have := key (n - k) (by omega)
  rwa [show k + 1 + (n - k) = n + 1 by omega] at this

theorem kept_some {S : List V2} (n : Nat) {d : Int} (d0 : 0 ≤ d) : ∃ k, k ≤ n ∧ (stepW S k).day ≤ d ∧ keptTo (tabW S n) d (tabW S n).length = (stepW S k).keep := by
  have key : ∀ n : Nat, ∃ k, k ≤ n ∧ (stepW S k).day ≤ d ∧ ∀ j, k < j → j ≤ n → d < (stepW S j).day := by
    intro n
    induction n with
    | zero => exact ⟨0, Nat.le_refl _, by simpa [stepW] using d0, fun j h1 h2 => by omega⟩
    | succ n ih =>
      by_cases h : (stepW S (n + 1)).day ≤ d
      · exact ⟨n + 1, Nat.le_refl _, h, fun j h1 h2 => by omega⟩
      · obtain ⟨k, h1, h2, h3⟩ := ih
        refine ⟨k, by omega, h2, fun j hj hj2 => ?_⟩
        rcases Nat.lt_or_ge j (n + 1) with e | e
        · exact h3 j hj (by omega)
        · obtain rfl : j = n + 1 := by omega
          omega
  obtain ⟨k, h1, h2, h3⟩ := key n
  exact ⟨k, h1, h2, kept_at h1 h2 h3⟩

/-- The first step that is not borne. -/
theorem mem_until {t : List Stp} {days : Int} : t.Pairwise (fun x y => x.day ≤ y.day) → ∀ s ∈ t, s.day ≤ days → s ∈ untilL t days := by
  induction t with
  | nil => intro _ s hs; cases hs
  | cons y t ih =>
    intro hp s hs hd
    obtain ⟨p1, p2⟩ := List.pairwise_cons.1 hp
    have hy : y.day ≤ days := by
      rcases List.mem_cons.1 hs with rfl | h
      · exact hd
      · have := p1 s h
        omega
    unfold untilL
    rw [List.takeWhile_cons, if_pos (by simpa using hy)]
    rcases List.mem_cons.1 hs with rfl | h
    · exact List.mem_cons_self
    · exact List.mem_cons_of_mem _ (ih p2 s h hd)

theorem until_day {t : List Stp} {days : Int} {s : Stp} (h : s ∈ untilL t days) : s.day ≤ days := by
  unfold untilL at h
  induction t with
  | nil => simp at h
  | cons y t ih =>
    rw [List.takeWhile_cons] at h
    split at h
    case isTrue hy =>
      rcases List.mem_cons.1 h with rfl | h
      · simpa using hy
      · exact ih h
    case isFalse => cases h

theorem fall_parts {l : List Ld} {u : List Stp} {s : Stp} {m : Nat} (h : fallO l u = some (s, m)) : ∃ k, u[k]? = some s ∧ weakO l s.keep = some m ∧ ∀ (j : Nat) (s' : Stp), j < k → u[j]? = some s' → weakO l s'.keep = none := by
  induction u with
  | nil => simp [fallO] at h
  | cons x u ih =>
    unfold fallO at h
    rw [List.findSome?_cons] at h
    cases hx : weakO l x.keep with
    | some i =>
      rw [hx] at h
      simp only [Option.map_some, Option.some.injEq, Prod.mk.injEq] at h
      obtain ⟨rfl, rfl⟩ := h
      exact ⟨0, rfl, hx, fun j s' hj => by omega⟩
    | none =>
      rw [hx] at h
      obtain ⟨k, h1, h2, h3⟩ := ih h
      refine ⟨k + 1, by simpa using h1, h2, fun j s' hj hs' => ?_⟩
      cases j with
      | zero => simp at hs'; subst hs'; exact hx
      | succ j => exact h3 j s' (by omega) (by simpa using hs')

theorem fall_nothing {l : List Ld} {u : List Stp} (h : fallO l u = none) : ∀ s ∈ u, weakO l s.keep = none := by
  unfold fallO at h
  rw [List.findSome?_eq_none_iff] at h
  intro s hs
  have := h s hs
  simpa using this

/-- A day on which the pile stands in the worst truth. -/
theorem stands_before {l : List Ld} {S : List V2} {n : Nat} {days : Int} (hS : ∀ v ∈ S, B2 v) (hp : (tabW S n).Pairwise (fun x y => x.day ≤ y.day)) {d : Int} (d0 : 0 ≤ d) (d1 : d ≤ days)
    (hF : ∀ s i, fallO l (untilL (tabW S n) days) = some (s, i) → d < s.day) : weakO l (keptTo (tabW S n) d (tabW S n).length) = none := by
  obtain ⟨k, hk, hd, he⟩ := kept_some (S := S) n d0
  rw [he]
  have hm : stepW S k ∈ tabW S n := List.mem_of_getElem? (tabW_at hk)
  have hu := mem_until (days := days) hp _ hm (by omega)
  cases hf : fallO l (untilL (tabW S n) days) with
  | none => exact fall_nothing hf _ hu
  | some y =>
    obtain ⟨s, i⟩ := y
    have h1 := hF s i hf
    obtain ⟨ks, h2, h3, h4⟩ := fall_parts hf
    have h5 := until_at h2
    obtain ⟨j, hj⟩ := List.getElem?_of_mem hu
    have hj2 := until_at hj
    rcases Nat.lt_or_ge j ks with e | e
    · exact h4 j _ e hj
    · exfalso
      have hks : ks ≤ n := by have := (List.getElem?_eq_some_iff.1 h5).1; rw [tabW_len] at this; omega
      have hjn : j ≤ n := by have := (List.getElem?_eq_some_iff.1 hj2).1; rw [tabW_len] at this; omega
      rw [tabW_at hks] at h5
      rw [tabW_at hjn] at hj2
      simp only [Option.some.injEq] at h5 hj2
      rw [← h5] at h1
      rw [← hj2] at hd
      rcases Nat.lt_or_ge ks j with e2 | e2
      · have := stepW_lt hS e2
        omega
      · obtain rfl : ks = j := by omega
        omega

theorem falls_on {l : List Ld} {S : List V2} {n : Nat} {days : Int} (hS : ∀ v ∈ S, B2 v) {s : Stp} {i : Nat} (h : fallO l (untilL (tabW S n) days) = some (s, i)) : 0 ≤ s.day ∧ s.day ≤ days ∧ weakO l (keptTo (tabW S n) s.day (tabW S n).length) = some i := by
  obtain ⟨ks, h2, h3, h4⟩ := fall_parts h
  have h5 := until_at h2
  have hd := until_day (List.mem_of_getElem? h2)
  have hks : ks ≤ n := by have := (List.getElem?_eq_some_iff.1 h5).1; rw [tabW_len] at this; omega
  rw [tabW_at hks] at h5
  simp only [Option.some.injEq] at h5
  subst h5
  refine ⟨(stepW_bd hS ks).1, hd, ?_⟩
  rw [kept_at hks (Int.le_refl _) (fun j h1 h2 => stepW_lt hS h1)]
  exact h3

/-- Without its topmost box. -/
theorem sumHi_take (l : List Ld) (hl : ∀ x ∈ l, 0 ≤ x.wh) (n : Nat) : sumHi (l.take n) ≤ sumHi l := by
  induction l generalizing n with
  | nil => simp
  | cons x l ih =>
    cases n with
    | zero =>
      have h1 := ih (fun y hy => hl y (List.mem_cons_of_mem _ hy)) 0
      have h2 := hl x List.mem_cons_self
      simp only [List.take_zero, sumHi] at h1 ⊢
      omega
    | succ n =>
      have h1 := ih (fun y hy => hl y (List.mem_cons_of_mem _ hy)) n
      simp only [List.take_succ_cons, sumHi]
      omega

theorem weak_take {l : List Ld} (hl : ∀ x ∈ l, 0 ≤ x.wh) {q : Int} (m : Nat) (h : weakO l q = none) : weakO (l.take m) q = none := by
  unfold weakO
  rw [List.find?_range_eq_none]
  intro i hi
  have hi2 : i < l.length := by simp at hi; omega
  obtain ⟨x, hx⟩ : ∃ x, l[i]? = some x := ⟨l[i], by simp [hi2]⟩
  have him : i < m := by simp at hi; omega
  have h1 := weakO_at h hi2
  unfold weakAt at h1 ⊢
  rw [hx] at h1
  rw [List.getElem?_take_of_lt him, hx]
  simp only [decide_eq_false_iff_not] at h1
  simp only [Bool.not_eq_true', decide_eq_false_iff_not]
  have h2 := sumHi_take (l.drop (i + 1)) (fun y hy => hl y (List.mem_of_mem_drop hy)) (m - (i + 1))
  rw [← List.drop_take] at h2
  omega

theorem fall_take {l : List Ld} (hl : ∀ x ∈ l, 0 ≤ x.wh) {t : List Stp} {days : Int} (hp : t.Pairwise (fun x y => x.day ≤ y.day)) (m : Nat) {s : Stp} {i : Nat} (h : fallO (l.take m) (untilL t days) = some (s, i)) :
    ∃ s' i', fallO l (untilL t days) = some (s', i') ∧ s'.day ≤ s.day := by
  obtain ⟨k, h1, h2, h3⟩ := fall_parts h
  cases hf : fallO l (untilL t days) with
  | none =>
    have := weak_take hl m (fall_nothing hf s (List.mem_of_getElem? h1))
    rw [h2] at this
    cases this
  | some y =>
    obtain ⟨s', i'⟩ := y
    obtain ⟨k', g1, g2, g3⟩ := fall_parts hf
    refine ⟨s', i', rfl, ?_⟩
    rcases Nat.lt_or_ge k k' with e | e
    · have := weak_take hl m (g3 k s e h1)
      rw [h2] at this
      cases this
    · have e1 := until_at h1
      have e2 := until_at g1
      rcases Nat.lt_or_ge k' k with e3 | e3
      · obtain ⟨b1, c1⟩ := List.getElem?_eq_some_iff.1 e1
        obtain ⟨b2, c2⟩ := List.getElem?_eq_some_iff.1 e2
        have := List.pairwise_iff_getElem.1 hp k' k b2 b1 e3
        rw [c1, c2] at this
        exact this
      · obtain rfl : k = k' := by omega
        rw [e1] at e2
        cases e2
        omega

end Go.Proofs.Ytcdilmagcdbogaa

namespace Go.Proofs.Ytcdilmagcdbogaa
set_option linter.unusedVariables false
set_option linter.unusedSimpArgs false
open Go.RowKit

set_option maxRecDepth 100000 in
set_option maxHeartbeats 2000000 in
theorem refBoxes_any (l : List Ld) (d : Bool) (hd : l.all okLd = d) (a : Option Addr) (cap : Nat) (w : World) (hr : LRow w a l) :
    Calls Try.prog 91 #[.slice a l.length cap] w fun e w' => e = .returned (.bool d) ∧ Gr w w' := by
  have hl0 := hr.1
  have HD := Lib.hid hd
  clear hd
  go_enter Try.func91, Try.ntmps91
  go_wp2
  go_loopw [3] (fun i wr => Hid (∃ k : Nat, k ≤ l.length ∧ i = .int .i64 k ∧ Gr w wr ∧ (l.take k).all okLd = true)) (fun i _ => l.length - (intOf i).toNat)
  case atStart => exact Lib.hid ⟨0, Nat.zero_le _, rfl, Below.refl _ _, by simp⟩
  case round =>
    obtain ⟨k, hk, rfl, gW, ht⟩ := hrel.out
    clear hrel
    by_cases hlt : k < l.length
    · obtain ⟨⟨sl, sh, wl, wh⟩, hx⟩ : ∃ x, l[k]? = some x := ⟨l[k], by simp [hlt]⟩
      have hrr := hr.grow gW
      obtain ⟨b1, o1, rfl, h1, q0, q1, q2, q3⟩ := LRow.get hrr hx
      dsimp only at q0 q1 q2 q3
      have hok : okLd ⟨sl, sh, wl, wh⟩ = (okSpan 0 20000000 sl sh && okSpan 0 100000 wl wh) := rfl
      have hsome : (some (⟨b1, o1, none⟩ : Addr)) = some ⟨b1, o1, none⟩ := rfl
      have tok0 : True := trivial
      cases c0 : okSpan 0 20000000 sl sh with
      | false =>
        have E := Lib.hid (show d = false by
          rw [← HD.out]
          cases h : l.all okLd with
          | false => rfl
          | true =>
            rw [List.all_eq_true] at h
            have := h _ (List.mem_of_getElem? hx)
            rw [hok, c0] at this
            cases this)
        clear ht hx hok
        go_wp2_with (go_at_call 85; refine (refSpan_any sl sh 0 20000000 false c0 _).mono ?_; rintro e w1 ⟨rfl, g1⟩)
        go_ret
        exact ⟨ret_bool E.out.symm, gW.tr g1⟩
      | true =>
        cases c1 : okSpan 0 100000 wl wh with
        | false =>
          have E := Lib.hid (show d = false by
            rw [← HD.out]
            cases h : l.all okLd with
            | false => rfl
            | true =>
              rw [List.all_eq_true] at h
              have := h _ (List.mem_of_getElem? hx)
              rw [hok, c0, c1] at this
              cases this)
          clear ht hx hok
          go_wp2_with (first
            | (have _t := tok0; clear tok0 _t; go_at_call 85; refine (refSpan_any sl sh 0 20000000 true c0 _).mono ?_; rintro e w1 ⟨rfl, g1⟩; have t2 := g1.keep q2; have t3 := g1.keep q3)
            | (go_at_call 85; refine (refSpan_any wl wh 0 100000 false c1 _).mono ?_; rintro e w2 ⟨rfl, g2⟩))
          go_ret
          exact ⟨ret_bool E.out.symm, gW.tr (g1.tr g2)⟩
        | true =>
          have hn : (l.take (k + 1)).all okLd = true := by
            rw [List.take_add_one, hx, Option.toList_some, List.all_append, ht]
            simp [hok, c0, c1]
          have HN := Lib.hid hn
          clear hn ht hx hok
          go_wp2_with (first
            | (have _t := tok0; clear tok0 _t; go_at_call 85; refine (refSpan_any sl sh 0 20000000 true c0 _).mono ?_; rintro e w1 ⟨rfl, g1⟩; have t2 := g1.keep q2; have t3 := g1.keep q3)
            | (go_at_call 85; refine (refSpan_any wl wh 0 100000 true c1 _).mono ?_; rintro e w2 ⟨rfl, g2⟩))
          go_roundw
          case rel => exact Lib.hid ⟨k + 1, by omega, by go_num, gW.tr (g1.tr g2), HN.out⟩
          case measure => simp [intOf]; omega
    · obtain rfl : k = l.length := by omega
      rw [List.take_length] at ht
      have E := Lib.hid (show d = true by rw [← HD.out, ht])
      clear ht
      go_wp2
      go_ret
      exact ⟨ret_bool E.out.symm, gW⟩

set_option maxRecDepth 100000 in
theorem refStack_any (most : Int) (l : List Ld) (R : Int) (hR : boxedL most l = R) (a : Option Addr) (cap : Nat) (w : World) (hr : LRow w a l) :
    Calls Try.prog 41 #[.slice a l.length cap, .int .i64 most] w fun e w' => e = .returned (.int .i64 R) ∧ Gr w w' := by
  unfold boxedL at hR
  by_cases c : most < (l.length : Int)
  · have d0 : decide (most < (l.length : Int)) = true := by simpa using c
    obtain rfl : R = 5 := by rw [← hR, if_pos c]
    clear hR
    go_enter Try.func41, Try.ntmps41
    go_wp2
    go_ret
    exact ⟨rfl, Below.refl _ _⟩
  · have d0 : decide (most < (l.length : Int)) = false := by simpa using c
    rw [if_neg c] at hR
    cases h : l.all okLd with
    | false =>
      obtain rfl : R = 2 := by rw [← hR, if_pos h]
      clear hR
      go_enter Try.func41, Try.ntmps41
      go_wp2_with (go_at_call 91; refine (refBoxes_any l false h a cap _ hr).mono ?_; rintro e w1 ⟨rfl, g1⟩)
      go_ret
      exact ⟨rfl, g1⟩
    | true =>
      obtain rfl : R = 0 := by rw [← hR, if_neg (by rw [h]; decide)]
      clear hR
      go_enter Try.func41, Try.ntmps41
      go_wp2_with (go_at_call 91; refine (refBoxes_any l true h a cap _ hr).mono ?_; rintro e w1 ⟨rfl, g1⟩)
      go_ret
      exact ⟨rfl, g1⟩

end Go.Proofs.Ytcdilmagcdbogaa

namespace Go.Proofs.Ytcdilmagcdbogaa
set_option linter.unusedVariables false
set_option linter.unusedSimpArgs false
open Go.RowKit

set_option maxRecDepth 100000 in
set_option maxHeartbeats 1000000 in
theorem refKept_any (t : List Stp) (day : Int) (ta : Option Addr) (tc : Nat) (w : World) (rt : TRow w ta t) :
    Calls Try.prog 93 #[.slice ta t.length tc, .int .i64 day] w fun e w' => e = .returned (.int .i64 (keptTo t day t.length)) ∧ Gr w w' := by
  have ht0 := rt.1
  go_enter Try.func93, Try.ntmps93
  go_wp2
  go_loopw [6, 5] (fun i q wr => Hid (∃ k : Nat, k ≤ t.length ∧ i = .int .i64 k ∧ q = .int .i64 (keptTo t day k) ∧ Gr w wr)) (fun i _ _ => t.length - (intOf i).toNat)
  case atStart => exact Lib.hid ⟨0, Nat.zero_le _, rfl, rfl, Below.refl _ _⟩
  case round =>
    obtain ⟨k, hk, rfl, rfl, gW⟩ := hrel.out
    clear hrel
    by_cases hlt : k < t.length
    · obtain ⟨⟨sd, sk⟩, hx⟩ : ∃ s, t[k]? = some s := ⟨t[k], by simp [hlt]⟩
      obtain ⟨b1, o1, rfl, h1, c0, c1⟩ := TRow.get (rt.grow gW) hx
      dsimp only at c0 c1
      have hn1 := keptTo_succ (day := day) hx
      dsimp only at hn1
      by_cases hd : sd ≤ day
      · rw [if_pos hd] at hn1
        have HN := Lib.hid hn1
        clear hn1 hx
        go_wp2
        go_roundw
        case rel => exact Lib.hid ⟨k + 1, by omega, by go_num, by rw [HN.out], gW⟩
        case measure => simp [intOf]; omega
      · rw [if_neg hd] at hn1
        have HN := Lib.hid hn1
        have hd2 : decide (sd ≤ day) = false := by simpa using hd
        clear hn1 hx
        go_wp2
        go_roundw
        case rel => exact Lib.hid ⟨k + 1, by omega, by go_num, by rw [HN.out], gW⟩
        case measure => simp [intOf]; omega
    · obtain rfl : k = t.length := by omega
      clear hlt hk
      go_wp2
      go_ret
      exact ⟨rfl, gW⟩

theorem sums_bd {l : List Ld} (hl : ∀ x ∈ l, LdOk x) : 0 ≤ sumLo l ∧ sumLo l ≤ 1000000000 * (l.length : Int) ∧ 0 ≤ sumHi l ∧ sumHi l ≤ 1000000000 * (l.length : Int) := by
  induction l with
  | nil => simp [sumLo, sumHi]
  | cons x l ih =>
    have h1 := ih (fun y hy => hl y (List.mem_cons_of_mem _ hy))
    obtain ⟨⟨a, b, c, d⟩, _⟩ := hl x List.mem_cons_self
    simp only [sumLo, sumHi, List.length_cons]
    omega

theorem sums_at {l : List Ld} {a n : Nat} {x : Ld} (h : l[a + n]? = some x) : sumLo ((l.drop a).take (n + 1)) = sumLo ((l.drop a).take n) + x.wl ∧ sumHi ((l.drop a).take (n + 1)) = sumHi ((l.drop a).take n) + x.wh :=
  sum_take (by rw [List.getElem?_drop]; exact h)

/-- The lowest box that does not hold, or -1. -/
def failI (l : List Ld) (q : Int) : Int := match weakO l q with | some k => (k : Int) | none => -1

theorem fieldSpan_1 (a b : Value) (w : World) : (Instr.field 45 (.agg #[a, b]) 1).run Try.prog w = .ok b w := by kernel_rfl

def LoadHeld (b5 rb ro : Nat) (lo hi wl wh : Int) (u : World) : Prop := u.cell? ⟨b5, 0, none⟩ = some (.int .i64 lo) ∧ u.cell? ⟨b5, 1, none⟩ = some (.int .i64 hi) ∧ u.cell? ⟨rb, ro + 2, none⟩ = some (.int .i64 wl) ∧ u.cell? ⟨rb, ro + 3, none⟩ = some (.int .i64 wh)

set_option maxRecDepth 100000 in
set_option maxHeartbeats 2000000 in
theorem refLoad_any (l : List Ld) (hl : ∀ x ∈ l, LdOk x) (hn : l.length ≤ 100) (i : Nat) (hi : i ≤ l.length) (a : Option Addr) (cap : Nat) (w : World) (hr : LRow w a l) :
    Calls Try.prog 42 #[.slice a l.length cap, .int .i64 (i : Int)] w fun e w' => e = .returned (.agg #[.int .i64 (sumLo (l.drop (i + 1))), .int .i64 (sumHi (l.drop (i + 1)))]) ∧ Gr w w' := by
  have hl0 := hr.1
  have HL := Lib.hid hl
  clear hl
  have w0 : IntKind.i64.wrap ((i : Int) + 1) = (i : Int) + 1 := IntWalk.i64_in _ (by omega)
  have gg := (Gr.al w (.cells #[.int .i64 0, .int .i64 0] 45)).tr (Gr.al _ (.cells #[.int .i64 0, .int .i64 0] 45))
  have o4 := (Own.new w [.int .i64 0, .int .i64 0] 45 w.heap.size rfl).keep (Gr.al _ (.cells #[.int .i64 0, .int .i64 0] 45))
  have o5 := Own.new (w.alloc (.cells #[.int .i64 0, .int .i64 0] 45)) [.int .i64 0, .int .i64 0] 45 (w.heap.size + 1) (by simp)
  go_enter Try.func42, Try.ntmps42
  go_upto_region 2 with fail
  refine wp_abs (fun U => Gr w U ∧ Own U w.heap.size [.int .i64 0, .int .i64 0] ∧ Own U (w.heap.size + 1) [.int .i64 0, .int .i64 0]) ⟨gg, o4, o5⟩ ?_
  clear gg o4 o5
  rintro U ⟨gg, o4, o5⟩
  go_wp2
  go_loopw [6] (fun q wr => Hid (∃ n : Nat, (n = 0 ∨ i + 1 + n ≤ l.length) ∧ q = .int .i64 ((i + 1 + n : Nat) : Int) ∧ Gr w wr ∧ Own wr w.heap.size [.int .i64 0, .int .i64 0] ∧ Own wr (w.heap.size + 1) [.int .i64 (sumLo ((l.drop (i + 1)).take n)), .int .i64 (sumHi ((l.drop (i + 1)).take n))])) (fun q _ => l.length - (intOf q).toNat)
  case atStart => exact Lib.hid ⟨0, .inl rfl, by go_num, gg, o4, o5⟩
  case round =>
    clear gg o4 o5
    obtain ⟨n, hn', rfl, gW, o4, o5⟩ := hrel.out
    clear hrel
    obtain ⟨M, hM⟩ : ∃ M, i + 1 + n = M := ⟨_, rfl⟩
    by_cases hlt : M < l.length
    · obtain ⟨⟨sl, sh, wl, wh⟩, hx⟩ : ∃ x, l[M]? = some x := ⟨l[M], by simp [hlt]⟩
      have hok := (HL.out _ (List.mem_of_getElem? hx)).1
      obtain ⟨h1, h2, h3, h4⟩ := hok
      dsimp only at h1 h2 h3 h4
      obtain ⟨e1, e2⟩ := sums_at (l := l) (a := i + 1) (n := n) (by rw [hM]; exact hx)
      have hb := sums_bd (l := (l.drop (i + 1)).take n) (fun x hx => HL.out x (List.mem_of_mem_drop (List.mem_of_mem_take hx)))
      have hb2 : ((l.drop (i + 1)).take n).length ≤ 100 := by simp; omega
      dsimp only at e1 e2
      obtain ⟨b1, of1, rfl, _, q0, q1, q2, q3⟩ := LRow.get (hr.grow gW) hx
      dsimp only at q2 q3
      clear hx q0 q1
      have HE1 := Lib.hid e1
      have HE2 := Lib.hid e2
      clear e1 e2
      generalize sumLo ((l.drop (i + 1)).take n) = lo at *
      generalize sumHi ((l.drop (i + 1)).take n) = hi' at *
      rw [hM]
      have w1 : IntKind.i64.wrap (lo + wl) = lo + wl := IntWalk.i64_in _ (by omega)
      have w2 : IntKind.i64.wrap (hi' + wh) = hi' + wh := IntWalk.i64_in _ (by omega)
      have hM2 : i + 1 + n ≤ M ∧ M ≤ i + 1 + n := by omega
      clear hM hb hb2
      obtain ⟨t0, t1⟩ := o5.1.c2
      have gD := Gr.dr wr
      have hF : LoadHeld (w.heap.size + 1) b1 (of1 + M * 4) lo hi' wl wh wr.drew := ⟨gD.keep t0, gD.keep t1, gD.keep q2, gD.keep q3⟩
      haveI : Nonempty (AtW (LoadHeld (w.heap.size + 1) b1 (of1 + M * 4) lo hi' wl wh)) := ⟨⟨_, hF⟩⟩
      have x0_ : ∀ u : AtW (LoadHeld (w.heap.size + 1) b1 (of1 + M * 4) lo hi' wl wh), u.val.cell? ⟨w.heap.size + 1, 0, none⟩ = some (.int .i64 lo) := fun u => u.property.1
      have x1_ : ∀ u : AtW (LoadHeld (w.heap.size + 1) b1 (of1 + M * 4) lo hi' wl wh), u.val.cell? ⟨w.heap.size + 1, 1, none⟩ = some (.int .i64 hi') := fun u => u.property.2.1
      have x2_ : ∀ u : AtW (LoadHeld (w.heap.size + 1) b1 (of1 + M * 4) lo hi' wl wh), u.val.cell? ⟨b1, of1 + M * 4 + 2, none⟩ = some (.int .i64 wl) := fun u => u.property.2.2.1
      have x3_ : ∀ u : AtW (LoadHeld (w.heap.size + 1) b1 (of1 + M * 4) lo hi' wl wh), u.val.cell? ⟨b1, of1 + M * 4 + 3, none⟩ = some (.int .i64 wh) := fun u => u.property.2.2.2
      clear t0 t1 q2 q3
      go_upto_region 5 with fail
      refine wp_region_ord (fun w' => ∃ u : AtW (LoadHeld (w.heap.size + 1) b1 (of1 + M * 4) lo hi' wl wh), w' = u.val) 19 ((List.range' 0 19).map (fun i => (i, true)) ++ []) (by kernel_rfl) (by kernel_rfl) ⟨⟨_, hF⟩, rfl⟩ ?_
      refine ord_seg 0 19 (by kernel_rfl) (fun d _ _ _ _ h => by cases d <;> exact h) ?_
      simp only [List.drop_zero, List.take_succ_cons, List.take_zero]
      repeat (go_big_quiet_step (fail))
      refine wpQuiet_nil ?_
      clear x0_ x1_ x2_ x3_
      show wpList _ _ _ (List.drop 19 _) _ _
      simp only [List.drop_succ_cons, List.drop_zero]
      obtain ⟨t0, t1⟩ := o5.1.c2
      have f0 := o5.2 0
      have f1 := o5.2 1
      replace o4 := o4.keep gD
      replace o5 := o5.keep gD
      go_wp2
      go_roundw
      case rel =>
        have gN := ((gW.tr gD).setCell (p := ⟨w.heap.size + 1, 0, none⟩) (Nat.le_succ _) (.int .i64 (lo + wl))).setCell (p := ⟨w.heap.size + 1, 1, none⟩) (Nat.le_succ _) (.int .i64 (hi' + wh))
        exact Lib.hid ⟨n + 1, .inr (by omega), by go_num, gN, (o4.other (by omega)).other (by omega), by rw [HE1.out, HE2.out]; exact (o5.set (i := 0) (v := .int .i64 (lo + wl)) (by simp)).set (i := 1) (v := .int .i64 (hi' + wh)) (by simp)⟩
      case measure => simp [intOf]; omega
    · have e : (l.drop (i + 1)).take n = l.drop (i + 1) := List.take_of_length_le (by simp; omega)
      rw [e] at o5
      clear e
      obtain ⟨lo, hlo⟩ : ∃ z, sumLo (l.drop (i + 1)) = z := ⟨_, rfl⟩
      obtain ⟨hi', hhi⟩ : ∃ z, sumHi (l.drop (i + 1)) = z := ⟨_, rfl⟩
      rw [hlo, hhi] at o5
      have HE := Lib.hid (And.intro hlo hhi)
      clear hlo hhi
      rw [hM]
      clear hM hn'
      obtain ⟨t0, t1⟩ := o5.1.c2
      obtain ⟨t2, t3⟩ := o4.1.c2
      have f0 := o4.2 0
      have f1 := o4.2 1
      go_wp2
      have gN := (gW.setCell (p := ⟨w.heap.size, 0, none⟩) (Nat.le_refl _) (.int .i64 lo)).setCell (p := ⟨w.heap.size, 1, none⟩) (Nat.le_refl _) (.int .i64 hi')
      obtain ⟨y0, y1⟩ := ((o4.set (i := 0) (v := .int .i64 lo) (by simp)).set (i := 1) (v := .int .i64 hi') (by simp)).1.c2
      exact bodyPost_ret (v := .agg #[.int .i64 lo, .int .i64 hi']) (by simp [results, Try.results42, go_sem, y0, y1]) rfl ⟨by rw [HE.out.1, HE.out.2], gN⟩

set_option maxRecDepth 100000 in
set_option maxHeartbeats 2000000 in
theorem refFails_any (l : List Ld) (hl : ∀ x ∈ l, LdOk x) (hn : l.length ≤ 100) (t : List Stp) (ht : ∀ s ∈ t, 0 ≤ s.keep ∧ s.keep ≤ 1000) (day : Int) (q : Int) (hq : keptTo t day t.length = q) (a ta : Option Addr) (cap tc : Nat) (w : World) (hr : LRow w a l) (rt : TRow w ta t) :
    Calls Try.prog 94 #[.slice a l.length cap, .slice ta t.length tc, .int .i64 day] w fun e w' => e = .returned (.int .i64 (failI l q)) ∧ Gr w w' := by
  have hl0 := hr.1
  obtain ⟨k0, k1⟩ := keptTo_bd ht day t.length
  rw [hq] at k0 k1
  have HL := Lib.hid hl
  have HK : Hid (∀ W', Gr w W' → Calls Try.prog 93 #[.slice ta t.length tc, .int .i64 day] W' fun e w' => e = .returned (.int .i64 q) ∧ Gr W' w') := Lib.hid (fun W' g => by
    have := refKept_any t day ta tc W' (rt.grow g)
    rw [hq] at this
    exact this)
  clear hl ht hq
  go_enter Try.func94, Try.ntmps94
  go_wp2
  go_loopw [7] (fun i wr => Hid (∃ k : Nat, k ≤ l.length ∧ i = .int .i64 k ∧ Gr w wr ∧ ∀ j, j < k → weakAt l q j = false)) (fun i _ => l.length - (intOf i).toNat)
  case atStart => exact Lib.hid ⟨0, Nat.zero_le _, rfl, Below.refl _ _, fun j hj => by omega⟩
  case round =>
    obtain ⟨k, hk, rfl, gW, hp⟩ := hrel.out
    clear hrel
    have HP := Lib.hid hp
    clear hp
    by_cases hlt : k < l.length
    · obtain ⟨⟨sl, sh, wl, wh⟩, hx⟩ : ∃ x, l[k]? = some x := ⟨l[k], by simp [hlt]⟩
      have hok := (HL.out _ (List.mem_of_getElem? hx)).2
      obtain ⟨h1, h2⟩ := hok
      dsimp only at h1 h2
      obtain ⟨b1, of1, rfl, _, q0, q1, q2, q3⟩ := LRow.get (hr.grow gW) hx
      dsimp only at q0
      have hW : weakAt l q k = decide (sl * q / 1000 < sumHi (l.drop (k + 1))) := by unfold weakAt; rw [hx]
      clear hx q1 q2 q3
      have HLo := Lib.hid (fun W' (g : Gr w W') => refLoad_any l HL.out hn k hk (some ⟨b1, of1, none⟩) cap W' (hr.grow g))
      generalize sumHi (l.drop (k + 1)) = hi' at *
      generalize sumLo (l.drop (k + 1)) = lo at *
      have m0 : 0 ≤ sl * q := Int.mul_nonneg h1 k0
      have m1 : sl * q ≤ 20000000 * 1000 := Int.mul_le_mul h2 k1 k0 (by omega)
      have w0 : IntKind.i64.wrap (sl * q) = sl * q := IntWalk.i64_in _ (by omega)
      have z0 : (sl * q).tdiv 1000 = sl * q / 1000 := Int.tdiv_eq_ediv_of_nonneg m0
      have w1 : IntKind.i64.wrap (sl * q / 1000) = sl * q / 1000 := IntWalk.i64_in _ (by omega)
      go_upto_region 4 with fail
      have hfi := fieldSpan_1
      have x0_ : ∀ u : From wr, u.val.cell? ⟨b1, of1 + k * 4, none⟩ = some (.int .i64 sl) := From.keep q0
      refine wp_region_gr (by kernel_rfl) (by kernel_rfl) ?_
      repeat (go_big_quiet_step (first
        | (go_at_call 42; (with_reducible exact Calls.gr (HLo.out _ (gW.tr (From.property _)))))
        | (go_at_call 93; (with_reducible exact Calls.gr (HK.out _ (gW.tr (From.property _)))))))
      refine wpQuiet_nil ?_
      rintro _ ⟨u, rfl⟩
      clear x0_ hfi
      have gU := u.property
      generalize u.val = Z at *
      by_cases hwk : sl * q / 1000 < hi'
      · have hwt : weakAt l q k = true := by rw [hW]; simpa using hwk
        have E := Lib.hid (show failI l q = (k : Int) by
          have := weakO_some hlt hwt HP.out
          unfold failI
          rw [this])
        clear hW hwt
        go_wp2
        go_ret
        exact ⟨by rw [E.out]; rfl, gW.tr gU⟩
      · have hwf : weakAt l q k = false := by rw [hW]; simpa using hwk
        have hwd : decide (sl * q / 1000 < hi') = false := by simpa using hwk
        have HP2 := Lib.hid (show ∀ j, j < k + 1 → weakAt l q j = false from fun j hj => by
          rcases Nat.lt_or_ge j k with h | h
          · exact HP.out j h
          · obtain rfl : j = k := by omega
            exact hwf)
        clear hW hwf
        go_wp2
        go_roundw
        case rel => exact Lib.hid ⟨k + 1, by omega, by go_num, gW.tr gU, HP2.out⟩
        case measure => simp [intOf]; omega
    · obtain rfl : k = l.length := by omega
      have E := Lib.hid (show failI l q = -1 by
        have := weakO_none (l := l) (keep := q) HP.out
        unfold failI
        rw [this])
      go_wp2
      go_ret
      exact ⟨by rw [E.out]; rfl, gW⟩

end Go.Proofs.Ytcdilmagcdbogaa

namespace Go.Proofs.Ytcdilmagcdbogaa
set_option linter.unusedVariables false
set_option linter.unusedSimpArgs false
open Go.RowKit

theorem chain_strict : ∀ (l : List Stp) (d k : Int), chainL d k l = true → l.Pairwise (fun x y => x.day < y.day)
  | [], _, _, _ => List.Pairwise.nil
  | s :: l, d, k, h => by
    simp only [chainL, Bool.and_eq_true] at h
    exact List.pairwise_cons.2 ⟨fun x hx => ((chain_parts l s.day s.keep h.2).1 x hx).1, chain_strict l s.day s.keep h.2⟩

theorem table_strict {t : List Stp} (h : tableL t = true) : t.Pairwise (fun x y => x.day < y.day) := by
  unfold tableL at h
  simp only [Bool.and_eq_true] at h
  exact chain_strict t _ _ h.2

/-- A table whose days ascend strictly, from 0 on. -/
structure TabS (t : List Stp) (days : Int) : Prop where
  ok : TabOk t days
  st : t.Pairwise (fun x y => x.day < y.day)

theorem TabS.lt {t : List Stp} {days : Int} (h : TabS t days) {j k : Nat} {x y : Stp} (hx : t[j]? = some x) (hy : t[k]? = some y) (hjk : j < k) : x.day < y.day := by
  obtain ⟨b1, c1⟩ := List.getElem?_eq_some_iff.1 hx
  obtain ⟨b2, c2⟩ := List.getElem?_eq_some_iff.1 hy
  have := List.pairwise_iff_getElem.1 h.st j k b1 b2 hjk
  rwa [c1, c2] at this

theorem TabS.ge {t : List Stp} {days : Int} (h : TabS t days) {k : Nat} {y : Stp} (hy : t[k]? = some y) : 0 ≤ y.day := by
  have hlt := (List.getElem?_eq_some_iff.1 hy).1
  obtain ⟨x, hx⟩ : ∃ x, t[0]? = some x := ⟨t[0]'(by omega), by simp⟩
  have h0 := h.ok.head x hx
  rcases Nat.eq_zero_or_pos k with rfl | e
  · rw [hx] at hy
    cases hy
    omega
  · have := h.lt hx hy e
    omega

theorem keptG {t : List Stp} {d : Int} {k : Nat} {s : Stp} (hk : t[k]? = some s) (h1 : s.day ≤ d) (h2 : ∀ (j : Nat) (x : Stp), k < j → t[j]? = some x → d < x.day) : keptTo t d t.length = s.keep := by
  have hlt := (List.getElem?_eq_some_iff.1 hk).1
  have key : ∀ m : Nat, k + 1 + m ≤ t.length → keptTo t d (k + 1 + m) = s.keep := by
    intro m
    induction m with
    | zero =>
      intro hm
      rw [Nat.add_zero, keptTo_succ hk, if_pos h1]
    | succ m ih =>
      intro hm
      obtain ⟨x, hx⟩ : ∃ x, t[k + 1 + m]? = some x := ⟨t[k + 1 + m]'(by omega), by simp⟩
      rw [show k + 1 + (m + 1) = k + 1 + m + 1 from rfl, keptTo_succ hx, if_neg (by have := h2 (k + 1 + m) x (by omega) hx; omega)]
      exact ih (by omega)
  have := key (t.length - (k + 1)) (by omega)
  rwa [show k + 1 + (t.length - (k + 1)) = t.length by omega] at this

theorem keptG_own {t : List Stp} {days : Int} (h : TabS t days) {k : Nat} {s : Stp} (hk : t[k]? = some s) : keptTo t s.day t.length = s.keep :=
  keptG hk (Int.le_refl _) (fun j x hj hx => h.lt hk hx hj)

theorem keptG_some {t : List Stp} {days : Int} (h : TabS t days) {d : Int} (d0 : 0 ≤ d) : ∃ (k : Nat) (s : Stp), t[k]? = some s ∧ s.day ≤ d ∧ ∀ (j : Nat) (x : Stp), k < j → t[j]? = some x → d < x.day := by
  have key : ∀ m : Nat, m + 1 ≤ t.length → ∃ (k : Nat) (s : Stp), k ≤ m ∧ t[k]? = some s ∧ s.day ≤ d ∧ ∀ (j : Nat) (x : Stp), k < j → j ≤ m → t[j]? = some x → d < x.day := by
    intro m
    induction m with
    | zero =>
      intro hm
      obtain ⟨x, hx⟩ : ∃ x, t[0]? = some x := ⟨t[0]'(by omega), by simp⟩
      have := h.ok.head x hx
      exact ⟨0, x, Nat.le_refl _, hx, by omega, fun j y h1 h2 => by omega⟩
    | succ m ih =>
      intro hm
      obtain ⟨x, hx⟩ : ∃ x, t[m + 1]? = some x := ⟨t[m + 1]'(by omega), by simp⟩
      by_cases e : x.day ≤ d
      · exact ⟨m + 1, x, Nat.le_refl _, hx, e, fun j y h1 h2 => by omega⟩
      · obtain ⟨k, s, h1, h2, h3, h4⟩ := ih (by omega)
        refine ⟨k, s, by omega, h2, h3, fun j y hj hj2 hy => ?_⟩
        rcases Nat.lt_or_ge j (m + 1) with e2 | e2
        · exact h4 j y hj (by omega) hy
        · obtain rfl : j = m + 1 := by omega
          rw [hx] at hy
          cases hy
          omega
  have h1 := h.ok.t1
  obtain ⟨k, s, _, h2, h3, h4⟩ := key (t.length - 1) (by omega)
  refine ⟨k, s, h2, h3, fun j x hj hx => h4 j x hj ?_ hx⟩
  have := (List.getElem?_eq_some_iff.1 hx).1
  omega

theorem fall_first {l : List Ld} {t : List Stp} {days d : Int} {i : Nat} (h : TabS t days) (d0 : 0 ≤ d) (d1 : d ≤ days) (hw : weakO l (keptTo t d t.length) = some i) (hb : ∀ d', 0 ≤ d' → d' < d → weakO l (keptTo t d' t.length) = none) :
    ∃ s, fallO l (untilL t days) = some (s, i) ∧ s.day = d := by
  obtain ⟨k, s, h1, h2, h3⟩ := keptG_some h d0
  rw [keptG h1 h2 h3] at hw
  have hsd : s.day = d := by
    by_cases e : s.day < d
    · have := hb s.day (h.ge h1) e
      rw [keptG_own h h1, hw] at this
      cases this
    · omega
  have hu := mem_until (days := days) h.ok.day s (List.mem_of_getElem? h1) (by omega)
  cases hf : fallO l (untilL t days) with
  | none =>
    have := fall_nothing hf s hu
    rw [hw] at this
    cases this
  | some y =>
    obtain ⟨s', i'⟩ := y
    obtain ⟨k', g1, g2, g3⟩ := fall_parts hf
    obtain ⟨j, hj⟩ := List.getElem?_of_mem hu
    rcases Nat.lt_trichotomy j k' with e | e | e
    · have := g3 j s e hj
      rw [hw] at this
      cases this
    · subst e
      rw [hj] at g1
      cases g1
      rw [hw] at g2
      cases g2
      exact ⟨s, rfl, hsd⟩
    · have e1 := until_at g1
      have e2 := until_at hj
      have hlt := h.lt e1 e2 e
      have := hb s'.day (h.ge e1) (by omega)
      rw [keptG_own h e1, g2] at this
      cases this

theorem fall_never {l : List Ld} {t : List Stp} {days : Int} (h : TabS t days) (hb : ∀ d', 0 ≤ d' → d' ≤ days → weakO l (keptTo t d' t.length) = none) : fallO l (untilL t days) = none := by
  cases hf : fallO l (untilL t days) with
  | none => rfl
  | some y =>
    obtain ⟨s', i'⟩ := y
    obtain ⟨k', g1, g2, g3⟩ := fall_parts hf
    have e1 := until_at g1
    have := hb s'.day (h.ge e1) (until_day (List.mem_of_getElem? g1))
    rw [keptG_own h e1, g2] at this
    cases this

def fallT (l : List Ld) (t : List Stp) (days : Int) : Value := match fallO l (untilL t days) with
  | none => .tuple #[.int .i64 0, .int .i64 0, .bool false]
  | some (s, k) => .tuple #[.int .i64 s.day, .int .i64 (k : Int), .bool true]

theorem fallT_none {l : List Ld} {t : List Stp} {days : Int} (h : fallO l (untilL t days) = none) : fallT l t days = .tuple #[.int .i64 0, .int .i64 0, .bool false] := by unfold fallT; rw [h]

theorem fallT_some {l : List Ld} {t : List Stp} {days : Int} {s : Stp} {i : Nat} (h : fallO l (untilL t days) = some (s, i)) : fallT l t days = .tuple #[.int .i64 s.day, .int .i64 (i : Int), .bool true] := by unfold fallT; rw [h]

set_option maxRecDepth 100000 in
set_option maxHeartbeats 2000000 in
theorem refFall_any (l : List Ld) (hl : ∀ x ∈ l, LdOk x) (hn : l.length ≤ 100) (t : List Stp) (days : Int) (ht : TabS t days) (a ta : Option Addr) (cap tc : Nat) (w : World) (hr : LRow w a l) (rt : TRow w ta t) :
    Calls Try.prog 44 #[.slice a l.length cap, .slice ta t.length tc, .int .i64 days] w fun e w' => e = .returned (fallT l t days) ∧ Gr w w' := by
  have hks := ht.ok.keep
  have dd0 := ht.ok.d0
  have dd1 := ht.ok.d1
  have HL := Lib.hid hl
  have HT := Lib.hid ht
  have HKS := Lib.hid hks
  clear hl ht hks
  have HK : Hid (∀ (d q : Int) W', keptTo t d t.length = q → Gr w W' → Calls Try.prog 93 #[.slice ta t.length tc, .int .i64 d] W' fun e w' => e = .returned (.int .i64 q) ∧ Gr W' w') := Lib.hid (fun d q W' hq g => by
    have := refKept_any t d ta tc W' (rt.grow g)
    rw [hq] at this
    exact this)
  have HF : Hid (∀ (d q : Int) W', keptTo t d t.length = q → Gr w W' → Calls Try.prog 94 #[.slice a l.length cap, .slice ta t.length tc, .int .i64 d] W' fun e w' => e = .returned (.int .i64 (failI l q)) ∧ Gr W' w') := Lib.hid (fun d q W' hq g => refFails_any l HL.out hn t HKS.out d q hq a ta cap tc W' (hr.grow g) (rt.grow g))
  go_enter Try.func44, Try.ntmps44
  go_wp2
  go_loopw [10, 9] (fun i q wr => Hid (∃ (d : Nat) (was : Int), (d : Int) ≤ days + 1 ∧ i = .int .i64 d ∧ q = .int .i64 was ∧ Gr w wr ∧ (d = 0 ∧ was = -1 ∨ 0 < d ∧ was = keptTo t ((d : Int) - 1) t.length) ∧ ∀ d', 0 ≤ d' → d' < (d : Int) → weakO l (keptTo t d' t.length) = none)) (fun i _ _ => (days + 1 - intOf i).toNat)
  case atStart => exact Lib.hid ⟨0, -1, by omega, rfl, rfl, Below.refl _ _, .inl ⟨rfl, rfl⟩, fun d' h1 h2 => by omega⟩
  case round =>
    obtain ⟨d, was, hd, rfl, rfl, gW, hwas, hb⟩ := hrel.out
    clear hrel
    by_cases hlt : (d : Int) ≤ days
    · obtain ⟨q, hq⟩ : ∃ q, keptTo t (d : Int) t.length = q := ⟨_, rfl⟩
      obtain ⟨q0, q1⟩ := keptTo_bd HKS.out (d : Int) t.length
      rw [hq] at q0 q1
      have HQ := Lib.hid hq
      by_cases hqw : q = was
      · have hn : weakO l q = none := by
          rcases hwas with ⟨_, e⟩ | ⟨e0, e⟩
          · omega
          · have := hb ((d : Int) - 1) (by omega) (by omega)
            rw [← e, ← hqw] at this
            exact this
        have HN : Hid (∀ d', 0 ≤ d' → d' < ((d + 1 : Nat) : Int) → weakO l (keptTo t d' t.length) = none) := Lib.hid (fun d' h1 h2 => by
          rcases Int.lt_or_le d' (d : Int) with e | e
          · exact hb d' h1 e
          · obtain rfl : d' = (d : Int) := by omega
            rw [hq]
            exact hn)
        subst hqw
        clear hwas hb hn hq
        go_wp2_with (go_at_call 93; refine (HK.out (d : Int) q _ HQ.out gW).mono ?_; rintro e w1 ⟨rfl, g1⟩)
        go_roundw
        case rel => exact Lib.hid ⟨d + 1, q, by omega, by go_num, rfl, gW.tr g1, .inr ⟨by omega, by rw [show ((d + 1 : Nat) : Int) - 1 = (d : Int) by omega, HQ.out]⟩, HN.out⟩
        case measure => simp [intOf]; omega
      · have hne : (q != was) = true := by simpa using hqw
        have HB := Lib.hid hb
        cases hO : weakO l q with
        | none =>
          have hfi : failI l q = -1 := by unfold failI; rw [hO]
          have HF1 : Hid (∀ W', Gr w W' → Calls Try.prog 94 #[.slice a l.length cap, .slice ta t.length tc, .int .i64 (d : Int)] W' fun e w' => e = .returned (.int .i64 (-1)) ∧ Gr W' w') := Lib.hid (fun W' g => by
            have := HF.out (d : Int) q W' HQ.out g
            rw [hfi] at this
            exact this)
          have HN : Hid (∀ d', 0 ≤ d' → d' < ((d + 1 : Nat) : Int) → weakO l (keptTo t d' t.length) = none) := Lib.hid (fun d' h1 h2 => by
            rcases Int.lt_or_le d' (d : Int) with e | e
            · exact hb d' h1 e
            · obtain rfl : d' = (d : Int) := by omega
              rw [hq]
              exact hO)
          clear hwas hb hq hO hfi hqw
          go_wp2_with (first
            | (go_at_call 93; refine (HK.out (d : Int) q _ HQ.out gW).mono ?_; rintro e w1 ⟨rfl, g1⟩)
            | (go_at_call 94; refine (HF1.out _ (gW.tr g1)).mono ?_; rintro e w2 ⟨rfl, g2⟩))
          go_roundw
          case rel => exact Lib.hid ⟨d + 1, q, by omega, by go_num, rfl, gW.tr (g1.tr g2), .inr ⟨by omega, by rw [show ((d + 1 : Nat) : Int) - 1 = (d : Int) by omega, HQ.out]⟩, HN.out⟩
          case measure => simp [intOf]; omega
        | some i =>
          have hfi : failI l q = (i : Int) := by unfold failI; rw [hO]
          have HF1 : Hid (∀ W', Gr w W' → Calls Try.prog 94 #[.slice a l.length cap, .slice ta t.length tc, .int .i64 (d : Int)] W' fun e w' => e = .returned (.int .i64 (i : Int)) ∧ Gr W' w') := Lib.hid (fun W' g => by
            have := HF.out (d : Int) q W' HQ.out g
            rw [hfi] at this
            exact this)
          obtain ⟨s, hf, hsd⟩ := fall_first (l := l) HT.out (by omega) hlt (by rw [hq]; exact hO) hb
          have E : fallT l t days = .tuple #[.int .i64 (d : Int), .int .i64 (i : Int), .bool true] := by rw [fallT_some hf, hsd]
          have HE := Lib.hid E
          clear hwas hb hq hO hfi hqw hf E hsd
          go_wp2_with (first
            | (go_at_call 93; refine (HK.out (d : Int) q _ HQ.out gW).mono ?_; rintro e w1 ⟨rfl, g1⟩)
            | (go_at_call 94; refine (HF1.out _ (gW.tr g1)).mono ?_; rintro e w2 ⟨rfl, g2⟩))
          rw [HE.out]
          exact bodyPost_ret (v := .tuple #[.int .i64 (d : Int), .int .i64 (i : Int), .bool true]) (by simp [results, Try.results44, go_sem]) rfl ⟨rfl, gW.tr (g1.tr g2)⟩
    · have hdl : decide ((d : Int) ≤ days) = false := by simpa using hlt
      have E : fallT l t days = .tuple #[.int .i64 0, .int .i64 0, .bool false] := fallT_none (fall_never (l := l) HT.out (fun d' h1 h2 => hb d' h1 (by omega)))
      have HE := Lib.hid E
      clear hwas hb E
      go_wp2
      rw [HE.out]
      exact bodyPost_ret (v := .tuple #[.int .i64 0, .int .i64 0, .bool false]) (by simp [results, Try.results44, go_sem]) rfl ⟨rfl, gW⟩

set_option maxRecDepth 100000 in
theorem refStands_any (l : List Ld) (hl : ∀ x ∈ l, LdOk x) (hn : l.length ≤ 100) (t : List Stp) (days : Int) (ht : TabS t days) (d : Bool) (hd : (fallO l (untilL t days)).isNone = d) (a ta : Option Addr) (cap tc : Nat) (w : World) (hr : LRow w a l) (rt : TRow w ta t) :
    Calls Try.prog 99 #[.slice a l.length cap, .slice ta t.length tc, .int .i64 days] w fun e w' => e = .returned (.bool d) ∧ Gr w w' := by
  have h1 := refFall_any l hl hn t days ht a ta cap tc w hr rt
  cases hf : fallO l (untilL t days) with
  | none =>
    rw [hf] at hd
    obtain rfl : d = true := hd.symm
    rw [fallT_none hf] at h1
    have H1 := Lib.hid h1
    clear h1 hf hd ht hl
    go_enter Try.func99, Try.ntmps99
    go_wp2_with (go_at_call 44; refine H1.out.mono ?_; rintro e w1 ⟨rfl, g1⟩)
    go_ret
    exact ⟨rfl, g1⟩
  | some y =>
    obtain ⟨s, i⟩ := y
    rw [hf] at hd
    obtain rfl : d = false := hd.symm
    rw [fallT_some hf] at h1
    have H1 := Lib.hid h1
    clear h1 hf hd ht hl
    go_enter Try.func99, Try.ntmps99
    go_wp2_with (go_at_call 44; refine H1.out.mono ?_; rintro e w1 ⟨rfl, g1⟩)
    go_ret
    exact ⟨rfl, g1⟩

end Go.Proofs.Ytcdilmagcdbogaa

namespace Go.Proofs.Ytcdilmagcdbogaa
set_option linter.unusedVariables false
set_option linter.unusedSimpArgs false
open Go.RowKit

theorem weak_mono {l : List Ld} (hl : ∀ x ∈ l, 0 ≤ x.sl) {q q' : Int} (h : q ≤ q') (hw : weakO l q = none) : weakO l q' = none := by
  refine weakO_none (fun i hi => ?_)
  obtain ⟨x, hx⟩ : ∃ x, l[i]? = some x := ⟨l[i], by simp [hi]⟩
  have h1 := weakO_at hw hi
  unfold weakAt at h1 ⊢
  rw [hx] at h1 ⊢
  simp only [decide_eq_false_iff_not] at h1 ⊢
  have h2 : x.sl * q ≤ x.sl * q' := Int.mul_le_mul_of_nonneg_left h (hl x (List.mem_of_getElem? hx))
  have h3 : x.sl * q / 1000 ≤ x.sl * q' / 1000 := Int.ediv_le_ediv (by omega) h2
  omega

theorem last_mem {t : List Stp} {days : Int} (h : TabOk t days) : ∃ s, s ∈ untilL t days ∧ lastL t days = s.keep ∧ ∀ x ∈ untilL t days, s.keep ≤ x.keep := by
  have h0 := until_pos h
  have h1 := until_len t days
  obtain ⟨s, hs⟩ : ∃ s, (untilL t days)[(untilL t days).length - 1]? = some s := ⟨(untilL t days)[(untilL t days).length - 1]'(by omega), by simp⟩
  have hs2 := until_at hs
  refine ⟨s, List.mem_of_getElem? hs, by unfold lastL; rw [hs2], fun x hx => ?_⟩
  obtain ⟨j, hj⟩ := List.getElem?_of_mem hx
  have hjl := (List.getElem?_eq_some_iff.1 hj).1
  rcases Nat.lt_or_ge j ((untilL t days).length - 1) with e | e
  · obtain ⟨b1, c1⟩ := List.getElem?_eq_some_iff.1 (until_at hj)
    obtain ⟨b2, c2⟩ := List.getElem?_eq_some_iff.1 hs2
    have := List.pairwise_iff_getElem.1 h.down j _ b1 b2 e
    rw [c1, c2] at this
    exact this
  · obtain rfl : j = (untilL t days).length - 1 := by omega
    rw [hs] at hj
    cases hj
    omega

/-- A stack stands through some days just if it does on the last one. -/
theorem fall_last {l : List Ld} (hl : ∀ x ∈ l, 0 ≤ x.sl) {t : List Stp} {days : Int} (h : TabOk t days) : fallO l (untilL t days) = none ↔ weakO l (lastL t days) = none := by
  obtain ⟨s, h1, h2, h3⟩ := last_mem h
  constructor
  · intro hf
    rw [h2]
    exact fall_nothing hf s h1
  · intro hw
    rw [h2] at hw
    unfold fallO
    rw [List.findSome?_eq_none_iff]
    intro x hx
    rw [weak_mono hl (h3 x hx) hw]
    rfl

theorem hsum_rep (x : Ld) : ∀ m : Nat, sumHi (List.replicate m x) = x.wh * (m : Int)
  | 0 => by simp [sumHi]
  | m + 1 => by
    rw [List.replicate_succ, sumHi, hsum_rep x m, show ((m + 1 : Nat) : Int) = (m : Int) + 1 by omega, Int.mul_add]
    omega

theorem hweak_rep {x : Ld} (hx : 0 ≤ x.wh) {q : Int} (m : Nat) : weakO (List.replicate (m + 1) x) q = none ↔ decide (x.sl * q / 1000 < x.wh * (m : Int)) = false := by
  have hat : ∀ i, i < m + 1 → weakAt (List.replicate (m + 1) x) q i = decide (x.sl * q / 1000 < x.wh * ((m - i : Nat) : Int)) := fun i hi => by
    unfold weakAt
    rw [List.getElem?_replicate, if_pos hi, List.drop_replicate, hsum_rep, show m + 1 - (i + 1) = m - i by omega]
  constructor
  · intro h
    have := weakO_at h (i := 0) (by simp)
    rw [hat 0 (by omega)] at this
    exact this
  · intro h
    refine weakO_none (fun i hi => ?_)
    have hi' : i < m + 1 := by simpa using hi
    rw [hat i hi']
    simp only [decide_eq_false_iff_not] at h ⊢
    have : x.wh * ((m - i : Nat) : Int) ≤ x.wh * (m : Int) := Int.mul_le_mul_of_nonneg_left (by omega) hx
    omega

/-- Whether so many equal boxes stand. -/
def stB (x : Ld) (t : List Stp) (days : Int) (m : Nat) : Bool := (fallO (List.replicate m x) (untilL t days)).isNone

theorem stB_is {x : Ld} (hx : LdOk x) {t : List Stp} {days : Int} (h : TabOk t days) (m : Nat) : stB x t days (m + 1) = decide (¬ x.sl * lastL t days / 1000 < x.wh * (m : Int)) := by
  have hl : ∀ y ∈ List.replicate (m + 1) x, 0 ≤ y.sl := fun y hy => by
    rw [List.eq_of_mem_replicate hy]
    exact hx.2.1
  have h1 := fall_last hl h
  have h2 := hweak_rep (q := lastL t days) hx.1.2.2.1 m
  unfold stB
  cases hf : fallO (List.replicate (m + 1) x) (untilL t days) with
  | none =>
    have := h2.1 (h1.1 hf)
    simp only [decide_eq_false_iff_not] at this
    simp [this]
  | some y =>
    have h3 : ¬ weakO (List.replicate (m + 1) x) (lastL t days) = none := fun e => by
      rw [h1.2 e] at hf
      cases hf
    have h4 : ¬ decide (x.sl * lastL t days / 1000 < x.wh * (m : Int)) = false := fun e => h3 (h2.2 e)
    simp at h4
    simp [h4]

/-- The greatest number, up to one, of which so many stand. -/
def hiTo (p : Nat → Bool) : Nat → Nat
  | 0 => 0
  | n + 1 => if p (n + 1) = true then n + 1 else hiTo p n

theorem hiTo_is {p : Nat → Bool} {r : Nat} (h1 : ∀ a, a < r → p (a + 1) = true) : ∀ n : Nat, (∀ a, r ≤ a → a < n → p (a + 1) = false) → hiTo p n = min r n
  | 0, _ => by simp [hiTo]
  | n + 1, h2 => by
    have ih := hiTo_is h1 n (fun a ha hn => h2 a ha (by omega))
    unfold hiTo
    by_cases e : n < r
    · rw [if_pos (h1 n e)]
      omega
    · rw [if_neg (by rw [h2 n (by omega) (by omega)]; decide), ih]
      omega

set_option maxRecDepth 100000 in
set_option maxHeartbeats 2000000 in
theorem refHigh_any (x : Ld) (hx : LdOk x) (t : List Stp) (days : Int) (ht : TabS t days) (ta : Option Addr) (tc : Nat) (w : World) (rt : TRow w ta t) :
    Calls Try.prog 46 #[.agg #[.int .i64 x.sl, .int .i64 x.sh, .int .i64 x.wl, .int .i64 x.wh], .slice ta t.length tc, .int .i64 days] w fun e w' => e = .returned (.int .i64 (hiTo (stB x t days) 50)) ∧ Gr w w' := by
  obtain ⟨i0, hi, hz0, hz1, hz2⟩ := info_parts infoLd
  have gg := Gr.al w (.cells #[.int .i64 x.sl, .int .i64 x.sh, .int .i64 x.wl, .int .i64 x.wh] 70)
  have hb := Box.new w [.int .i64 x.sl, .int .i64 x.sh, .int .i64 x.wl, .int .i64 x.wh] 70 w.heap.size rfl
  have HS : Hid (∀ (m : Nat) (d : Bool) (a : Option Addr) (cap : Nat) W', m ≤ 50 → stB x t days m = d → LRow W' a (List.replicate m x) → Gr w W' → Calls Try.prog 99 #[.slice a m cap, .slice ta t.length tc, .int .i64 days] W' fun e w' => e = .returned (.bool d) ∧ Gr W' w') := Lib.hid (fun m d a cap W' hm hd hr g => by
    have := refStands_any (List.replicate m x) (fun y hy => by rw [List.eq_of_mem_replicate hy]; exact hx) (by simp; omega) t days ht d hd a ta cap tc W' hr (rt.grow g)
    rw [List.length_replicate] at this
    exact this)
  clear hx ht
  have hrep : ∀ m, (List.replicate (m + 1) x).flatMap encL = (List.replicate m x).flatMap encL ++ encL x := fun m => by rw [List.replicate_succ', flat_snoc]
  have HRep := Lib.hid hrep
  clear hrep
  obtain ⟨p, hp⟩ : ∃ p, stB x t days = p := ⟨_, rfl⟩
  rw [hp] at HS ⊢
  clear hp
  obtain ⟨sl, sh, wl, wh⟩ := x
  dsimp only at gg hb ⊢
  have HRep2 : Hid (∀ m, (List.replicate (m + 1) (⟨sl, sh, wl, wh⟩ : Ld)).flatMap encL = (List.replicate m (⟨sl, sh, wl, wh⟩ : Ld)).flatMap encL ++ [sl, sh, wl, wh].map (fun n => Value.int .i64 n)) := HRep
  go_enter Try.func46, Try.ntmps46
  go_upto_region 1 with fail
  refine wp_abs (fun U => Gr w U ∧ Box U w.heap.size [.int .i64 sl, .int .i64 sh, .int .i64 wl, .int .i64 wh]) ⟨gg, hb⟩ ?_
  clear gg hb
  rintro U ⟨gg, hb⟩
  go_upto_region 2 with fail
  have oA := owns_empty U 70 4
  have gA := gg.tr (Gr.al U (.cells #[] 70))
  have hb2 := hb.keep (Gr.al U (.cells #[] 70))
  obtain ⟨B0, hB0⟩ : ∃ B0, B0 = U.heap.size := ⟨_, rfl⟩
  have hB1 : w.heap.size ≤ B0 := by rw [hB0]; exact gg.size
  have hB2 : w.heap.size < B0 := by rw [hB0]; exact hb.1
  rw [← hB0] at oA ⊢
  clear hB0 hb gg
  refine wp_abs (fun V => Gr w V ∧ Box V w.heap.size [.int .i64 sl, .int .i64 sh, .int .i64 wl, .int .i64 wh] ∧ V.ownsRow B0 70 4 (.slice (some ⟨B0, 0, none⟩) 0 0) 0 []) ⟨gA, hb2, oA⟩ ?_
  clear gA hb2 oA
  rintro V ⟨gA, hb, oA⟩
  go_wp2
  go_loopw [9, 8, 7] (fun i s q wr => Hid (∃ k g cap : Nat, k ≤ 50 ∧ i = .int .i64 ((k + 1 : Nat) : Int) ∧ s = .slice (some ⟨g, 0, none⟩) k cap ∧ q = .int .i64 ((hiTo p k : Nat) : Int) ∧ Gr w wr ∧ Box wr w.heap.size [.int .i64 sl, .int .i64 sh, .int .i64 wl, .int .i64 wh] ∧ wr.ownsRow B0 70 4 (.slice (some ⟨g, 0, none⟩) k cap) k ((List.replicate k (⟨sl, sh, wl, wh⟩ : Ld)).flatMap encL))) (fun i _ _ _ => 51 - (intOf i).toNat)
  case atStart => exact Lib.hid ⟨0, B0, 0, by omega, by go_num, rfl, rfl, gA, hb, by simpa using oA⟩
  case round =>
    clear gA hb oA
    obtain ⟨k, g, cap, hk, rfl, rfl, rfl, gW, hb, oA⟩ := hrel.out
    clear hrel
    by_cases hlt : k < 50
    · obtain ⟨y0, y1, y2, y3⟩ := hb.c4'
      have k1 : k + 1 ≤ maxLen := by unfold maxLen; omega
      have k2 : (k + 1) * 32 ≤ 140737488355328 := by omega
      have gAl := Gr.al wr (.cells #[.int .i64 sl, .int .i64 sh, .int .i64 wl, .int .i64 wh] 70)
      obtain ⟨M, hM⟩ : ∃ M, k + 1 = M := ⟨_, rfl⟩
      obtain ⟨q, hq⟩ : ∃ q, hiTo p k = q := ⟨_, rfl⟩
      have hlow : ∀ r, (Value.slice (some ⟨g, 0, none⟩) k cap).ownBlock = some r → w.heap.size < r := fun r e => by
        have := (oA.lt r e).1
        omega
      have HB := Lib.hid hb
      have HLow := Lib.hid hlow
      clear hlow hb
      rw [hM, hq]
      have hMle : (M : Int) ≤ 50 := by omega
      go_upto_region 6 with (at_builtin; refine wpList_append_lies _ rfl _ _ 53 rfl B0 70 i0 _ 4 32 Try.underlying53 hi hz0 hz1 hz2 rfl (by decide) (.slice (some ⟨g, 0, none⟩) k cap) k _ rfl (owns_keep oA gAl) ⟨wr.heap.size, 0, none⟩ 1 1 ([sl, sh, wl, wh].map (fun n => Value.int .i64 n)) rfl rfl (cell_news _ _ _) (ints_one _) (by omega) k1 k2 (by have := gAl.size; have := (oA.lt g rfl).2; have := (oA.lt g rfl).1; omega) _ rfl ?_; intro g2 cap2 Y hA2 hgr hat hlt2)
      have gY : Gr w Y := (gW.tr gAl).grown' (owns_keep oA gAl) hB1 hgr
      have hbY := (HB.out.keep gAl).grown hgr (fun r e => by have := HLow.out r e; omega)
      have hA3 : Y.ownsRow B0 70 4 (.slice (some ⟨g2, 0, none⟩) M cap2) M ((List.replicate M (⟨sl, sh, wl, wh⟩ : Ld)).flatMap encL) := by
        rw [← hM, HRep2.out]
        exact hA2
      have hrw : LRow Y (some ⟨g2, 0, none⟩) (List.replicate M (⟨sl, sh, wl, wh⟩ : Ld)) := by
        obtain ⟨a3, c3, e3, h3⟩ := owns_row (enc := encL) (l := List.replicate M (⟨sl, sh, wl, wh⟩ : Ld)) (fun _ => rfl) (by simp; omega) (by rw [List.length_replicate]; exact hA3)
        rw [List.length_replicate] at e3
        injection e3 with e3 _ _
        rw [e3]
        exact h3
      refine wp_abs (fun Y => Gr w Y ∧ Box Y w.heap.size [.int .i64 sl, .int .i64 sh, .int .i64 wl, .int .i64 wh] ∧ Y.ownsRow B0 70 4 (.slice (some ⟨g2, 0, none⟩) M cap2) M ((List.replicate M (⟨sl, sh, wl, wh⟩ : Ld)).flatMap encL) ∧ LRow Y (some ⟨g2, 0, none⟩) (List.replicate M (⟨sl, sh, wl, wh⟩ : Ld))) ⟨gY, hbY, hA3, hrw⟩ ?_
      clear gY hbY hA3 hrw hA2 hgr hat hlt2 gAl HB HLow y0 y1 y2 y3 oA
      rintro Z ⟨gZ, hbZ, oZ, rZ⟩
      have HM := Lib.hid hM
      have hT : hiTo p (k + 1) = if p (k + 1) = true then k + 1 else hiTo p k := rfl
      rw [hM, hq] at hT
      clear hM hq
      cases hpM : p M with
      | true =>
        rw [if_pos hpM] at hT
        have HT2 := Lib.hid hT
        have HPM := Lib.hid hpM
        clear hT hpM
        go_wp2_with (go_at_call 99; refine (HS.out M true (some ⟨g2, 0, none⟩) cap2 _ (by omega) HPM.out rZ gZ).mono ?_; rintro e w3 ⟨rfl, g3⟩)
        go_roundw
        case rel => exact Lib.hid ⟨M, g2, cap2, by omega, by go_num, rfl, by rw [HT2.out], gZ.tr g3, hbZ.keep g3, owns_keep oZ g3⟩
        case measure => simp [intOf]; omega
      | false =>
        rw [if_neg (by rw [hpM]; decide)] at hT
        have HT2 := Lib.hid hT
        have HPM := Lib.hid hpM
        clear hT hpM
        go_wp2_with (go_at_call 99; refine (HS.out M false (some ⟨g2, 0, none⟩) cap2 _ (by omega) HPM.out rZ gZ).mono ?_; rintro e w3 ⟨rfl, g3⟩)
        go_roundw
        case rel => exact Lib.hid ⟨M, g2, cap2, by omega, by go_num, rfl, by rw [HT2.out], gZ.tr g3, hbZ.keep g3, owns_keep oZ g3⟩
        case measure => simp [intOf]; omega
    · obtain rfl : k = 50 := by omega
      have hdl : decide (((50 + 1 : Nat) : Int) ≤ 50) = false := by decide
      clear hlt hk
      obtain ⟨q, hq⟩ : ∃ q, hiTo p 50 = q := ⟨_, rfl⟩
      rw [hq]
      have HQ := Lib.hid hq
      clear hq
      go_wp2
      go_ret
      exact ⟨by rw [HQ.out]; rfl, gW⟩

end Go.Proofs.Ytcdilmagcdbogaa

namespace Go.Proofs.Ytcdilmagcdbogaa
set_option linter.unusedVariables false
set_option linter.unusedSimpArgs false
open Go.RowKit

/-- No box of l' is weaker or heavier than that of l. -/
def Better (l l' : List Ld) : Prop := l'.length = l.length ∧ ∀ (i : Nat) (x : Ld), l[i]? = some x → ∃ y, l'[i]? = some y ∧ x.sl ≤ y.sl ∧ y.wh ≤ x.wh

theorem Better.refl (l : List Ld) : Better l l := ⟨rfl, fun i x h => ⟨x, h, Int.le_refl _, Int.le_refl _⟩⟩

theorem Better.set {l : List Ld} {i : Nat} {x y : Ld} (hx : l[i]? = some x) (h1 : x.sl ≤ y.sl) (h2 : y.wh ≤ x.wh) : Better l (l.set i y) := by
  refine ⟨by simp, fun j z hz => ?_⟩
  by_cases e : i = j
  · subst e
    rw [hx] at hz
    cases hz
    exact ⟨y, by rw [List.getElem?_set_self (List.getElem?_eq_some_iff.1 hx).1], h1, h2⟩
  · exact ⟨z, by rw [List.getElem?_set_ne e]; exact hz, Int.le_refl _, Int.le_refl _⟩

theorem whAt_better {l l' : List Ld} (h : Better l l') (x : Nat) : whAt l' x ≤ whAt l x := by
  unfold whAt
  cases hx : l[x]? with
  | none =>
    have h1 : l.length ≤ x := by rw [List.getElem?_eq_none_iff] at hx; exact hx
    have : l'[x]? = none := by rw [List.getElem?_eq_none_iff, h.1]; exact h1
    rw [this]
    exact Int.le_refl _
  | some y =>
    obtain ⟨z, hz, _, h2⟩ := h.2 x y hx
    rw [hz]
    exact h2

theorem sumW_better {l l' : List Ld} (h : Better l l') : ∀ r : List Nat, sumW l' r ≤ sumW l r
  | [] => Int.le_refl _
  | x :: r => by
    have := sumW_better h r
    have := whAt_better h x
    unfold sumW
    omega

theorem lowB_better {l l' : List Ld} (h : Better l l') (hl : ∀ x ∈ l, 0 ≤ x.sl) {k k' : Int} (k0 : 0 ≤ k) (kk : k ≤ k') {f g : Int → Bool} {s x : Nat} (hf : f ((without s x : Nat) : Int) = true → g ((without s x : Nat) : Int) = true) (hb : lowB l k f s x = true) : lowB l' k' g s x = true := by
  unfold lowB at hb ⊢
  cases hx : l[x]? with
  | none => rw [hx] at hb; cases hb
  | some y =>
    rw [hx] at hb
    simp only [Bool.and_eq_true, decide_eq_true_eq] at hb
    obtain ⟨z, hz, h1, h2⟩ := h.2 x y hx
    rw [hz]
    simp only [Bool.and_eq_true, decide_eq_true_eq]
    have h3 : weightW l' (without s x) ≤ weightW l (without s x) := sumW_better h _
    have hy := hl y (List.mem_of_getElem? hx)
    have h4 : y.sl * k ≤ z.sl * k' := Int.mul_le_mul h1 kk k0 (by omega)
    have h5 : y.sl * k / 1000 ≤ z.sl * k' / 1000 := Int.ediv_le_ediv (by omega) h4
    exact ⟨hf hb.1, by omega⟩

theorem stands_zero {l : List Ld} {keep : Int} : ∀ k : Nat, standsTo l keep k ((0 : Nat) : Int) = true
  | 0 => rfl
  | k + 1 => by
    have ih := stands_zero (l := l) (keep := keep) k
    unfold standsTo
    split
    · show (if ((0 : Nat) : Int) = (k : Int) then true else standsTo l keep k ((0 : Nat) : Int)) = true
      rw [ih]
      simp
    · exact ih

theorem stands_better {l l' : List Ld} (h : Better l l') (hl : ∀ x ∈ l, 0 ≤ x.sl) {keep keep' : Int} (k0 : 0 ≤ keep) (kk : keep ≤ keep') {K : Nat} (hK : K ≤ 1024) : ∀ s : Nat, s < K → standsTo l keep K (s : Int) = true → standsTo l' keep' K (s : Int) = true := by
  intro s
  induction s using Nat.strongRecOn with
  | ind s ih =>
    intro hs hst
    rcases Nat.eq_zero_or_pos s with rfl | h0
    · exact stands_zero K
    · rw [stands_iff hs h0 (by omega)] at hst ⊢
      obtain ⟨x, hx⟩ := Option.isSome_iff_exists.1 hst
      obtain ⟨h1, h2, h3⟩ := low_bit hx
      have hlt := without_lt (show s < 1024 by omega) h1 h2
      have h4 := lowB_better h hl k0 kk (g := standsTo l' keep' K) (fun hf => ih (without s x) hlt (by omega) hf) h3
      unfold lowO
      rw [List.find?_isSome]
      exact ⟨x, memb_of h1 h2, h4⟩

theorem last_soon {t : List Stp} {d d' : Int} (h : TabOk t d) (h' : TabOk t d') (hd : d' ≤ d) : lastL t d ≤ lastL t d' := by
  obtain ⟨s, h1, h2, h3⟩ := last_mem h
  obtain ⟨s', g1, g2, g3⟩ := last_mem h'
  rw [h2, g2]
  refine h3 s' (mem_until h.day s' ?_ (by have := until_day g1; omega))
  obtain ⟨j, hj⟩ := List.getElem?_of_mem g1
  exact List.mem_of_getElem? (until_at hj)

theorem most_ge {f : Int → Bool} : ∀ (k y : Nat), y < k → f (y : Int) = true → (membL y).length ≤ (mostTo f k).length
  | 0, y, h, _ => by omega
  | k + 1, y, h, hf => by
    unfold mostTo
    rcases Nat.lt_or_ge y k with e | e
    · have ih := most_ge k y e hf
      split
      · split
        · rename_i h1
          rcases h1 with h1 | h1
          · omega
          · omega
        · exact ih
      · exact ih
    · obtain rfl : y = k := by omega
      rw [if_pos hf]
      split
      · exact Nat.le_refl _
      · rename_i h1
        omega

theorem most_some {f : Int → Bool} : ∀ k : Nat, mostTo f k = [] ∨ ∃ y, y < k ∧ f ((y : Nat) : Int) = true ∧ mostTo f k = membL y
  | 0 => .inl rfl
  | k + 1 => by
    have ih := most_some (f := f) k
    have up : mostTo f k = [] ∨ ∃ y, y < k + 1 ∧ f ((y : Nat) : Int) = true ∧ mostTo f k = membL y := by
      rcases ih with h | ⟨y, h1, h2, h3⟩
      · exact .inl h
      · exact .inr ⟨y, by omega, h2, h3⟩
    unfold mostTo
    split
    · rename_i hf
      split
      · exact .inr ⟨k, by omega, hf, rfl⟩
      · exact up
    · exact up

theorem most_better {f g : Int → Bool} {k : Nat} (h : ∀ s : Nat, s < k → f (s : Int) = true → g (s : Int) = true) : (mostTo f k).length ≤ (mostTo g k).length := by
  rcases most_some (f := f) k with e | ⟨y, h1, h2, h3⟩
  · rw [e]
    simp
  · rw [h3]
    exact most_ge k y h1 (h y h1 h2)

/-- Most is not smaller. -/
theorem most_more {l l' : List Ld} (h : Better l l') (h10 : l.length ≤ 10) (hl : ∀ x ∈ l, 0 ≤ x.sl) {t : List Stp} {d d' : Int} (ht : TabOk t d) (ht' : TabOk t d') (hd : d' ≤ d) : (mostTo (setsL l t d) (allN l + 1)).length ≤ (mostTo (setsL l' t d') (allN l' + 1)).length := by
  have e : allN l' = allN l := by unfold allN; rw [h.1]
  have hp := pow_bd h10
  rw [e]
  refine most_better (fun s hs hf => ?_)
  unfold setsL at hf ⊢
  rw [e]
  exact stands_better h hl (last_bd ht).1 (last_soon ht ht' hd) (by unfold allN; omega) s hs hf

/-- How many equal boxes stand: a number from 1 to 50. -/
theorem high_num {x : Ld} (hx : LdOk x) {t : List Stp} {days : Int} (ht : TabOk t days) : ∃ r : Nat, 1 ≤ r ∧ r ≤ 50 ∧ hiTo (stB x t days) 50 = r ∧ (∀ a : Nat, a < r → ¬ x.sl * lastL t days / 1000 < x.wh * (a : Int)) ∧ ∀ a : Nat, r ≤ a → a < 50 → x.sl * lastL t days / 1000 < x.wh * (a : Int) := by
  have hw : 0 ≤ x.wh := hx.1.2.2.1
  have key : ∀ n : Nat, ∃ r : Nat, r ≤ n ∧ (∀ a : Nat, a < r → ¬ x.sl * lastL t days / 1000 < x.wh * (a : Int)) ∧ ∀ a : Nat, r ≤ a → a < n → x.sl * lastL t days / 1000 < x.wh * (a : Int) := by
    intro n
    induction n with
    | zero => exact ⟨0, Nat.le_refl _, fun a ha => by omega, fun a h1 h2 => by omega⟩
    | succ n ih =>
      obtain ⟨r, h1, h2, h3⟩ := ih
      by_cases e : x.sl * lastL t days / 1000 < x.wh * (n : Int)
      · refine ⟨r, by omega, h2, fun a ha ha2 => ?_⟩
        rcases Nat.lt_or_ge a n with e2 | e2
        · exact h3 a ha e2
        · obtain rfl : a = n := by omega
          exact e
      · refine ⟨n + 1, Nat.le_refl _, fun a ha h => ?_, fun a h1 h2 => by omega⟩
        have : x.wh * (a : Int) ≤ x.wh * (n : Int) := Int.mul_le_mul_of_nonneg_left (by omega) hw
        omega
  obtain ⟨r, h1, h2, h3⟩ := key 50
  have hr : 1 ≤ r := by
    rcases Nat.eq_zero_or_pos r with e | e
    · subst e
      have h0 := h3 0 (by omega) (by omega)
      have h4 : 0 ≤ x.sl * lastL t days := Int.mul_nonneg hx.2.1 (last_bd ht).1
      simp at h0
      omega
    · exact e
  refine ⟨r, hr, h1, ?_, h2, h3⟩
  have := hiTo_is (p := stB x t days) (r := r) (fun a ha => by rw [stB_is hx ht a]; simpa using h2 a ha) 50 (fun a ha ha2 => by rw [stB_is hx ht a]; simpa using h3 a ha ha2)
  rw [this]
  omega

theorem high_more {x y : Ld} (hx : LdOk x) (hy : LdOk y) (h1 : x.sl ≤ y.sl) (h2 : y.wh ≤ x.wh) {t : List Stp} {d d' : Int} (ht : TabOk t d) (ht' : TabOk t d') (hd : d' ≤ d) : hiTo (stB x t d) 50 ≤ hiTo (stB y t d') 50 := by
  obtain ⟨r, a1, a2, a3, a4, a5⟩ := high_num hx ht
  obtain ⟨q, b1, b2, b3, b4, b5⟩ := high_num hy ht'
  rw [a3, b3]
  rcases Nat.lt_or_ge q r with e | e
  · exfalso
    have c1 := a4 q e
    have c2 := b5 q (Nat.le_refl _) (by omega)
    have hl := last_soon ht ht' hd
    have c3 : x.sl * lastL t d ≤ y.sl * lastL t d' := Int.mul_le_mul h1 hl (last_bd ht).1 (by have := hx.2.1; omega)
    have c4 : x.sl * lastL t d / 1000 ≤ y.sl * lastL t d' / 1000 := Int.ediv_le_ediv (by omega) c3
    have c5 : y.wh * (q : Int) ≤ x.wh * (q : Int) := Int.mul_le_mul_of_nonneg_right h2 (by omega)
    omega
  · exact e

end Go.Proofs.Ytcdilmagcdbogaa

namespace Go.Proofs.Ytcdilmagcdbogaa
set_option linter.unusedVariables false
set_option linter.unusedSimpArgs false
open Go.RowKit

/-- The set of an order's boxes. -/
def setO : List Nat → Nat
  | [] => 0
  | x :: o => setO o ^^^ 2 ^ x

theorem setO_lt : ∀ {o : List Nat}, (∀ x ∈ o, x < 10) → setO o < 1024
  | [], _ => by decide
  | x :: o, h => by
    have ih := setO_lt (o := o) (fun y hy => h y (List.mem_cons_of_mem _ hy))
    have hx := pow_1024 (h x List.mem_cons_self)
    show setO o ^^^ 2 ^ x < 2 ^ 10
    exact Nat.xor_lt_two_pow ih hx

theorem setO_bit : ∀ {o : List Nat}, o.Nodup → ∀ i, (setO o).testBit i = decide (i ∈ o)
  | [], _, i => by simp [setO]
  | x :: o, h, i => by
    obtain ⟨h1, h2⟩ := List.nodup_cons.1 h
    have ih := setO_bit h2 i
    unfold setO
    rw [Nat.testBit_xor, Nat.testBit_two_pow, ih]
    by_cases e : x = i
    · subst e
      simp [h1]
    · have e2 : ¬ i = x := fun e' => e e'.symm
      simp [e, e2]

theorem setO_without (x : Nat) (o : List Nat) : without (setO (x :: o)) x = setO o := by
  show (setO o ^^^ 2 ^ x) ^^^ 2 ^ x = setO o
  rw [Nat.xor_assoc, Nat.xor_self, Nat.xor_zero]

theorem memb_perm {o : List Nat} (h : o.Nodup) (hx : ∀ x ∈ o, x < 10) : (membL (setO o)).Perm o := by
  refine (List.perm_ext_iff_of_nodup ?_ h).2 (fun a => ?_)
  · unfold membL membTo
    exact List.nodup_range.sublist List.filter_sublist
  · constructor
    · intro ha
      have := (memb_bit ha).2
      rw [setO_bit h] at this
      simpa using this
    · intro ha
      exact memb_of (hx a ha) (by rw [setO_bit h]; simpa using ha)

theorem sumW_perm (l : List Ld) {a b : List Nat} (h : a.Perm b) : sumW l a = sumW l b := by
  induction h with
  | nil => rfl
  | cons x _ ih => simp only [sumW, ih]
  | swap x y l' => simp only [sumW]; omega
  | trans _ _ h1 h2 => exact h1.trans h2

theorem weight_ofO (l : List Ld) {o : List Nat} (h : o.Nodup) (hx : ∀ x ∈ o, x < 10) : weightW l (setO o) = sumW l o := sumW_perm l (memb_perm h hx)

theorem set_of_mem {s : Nat} (hs : s < 1024) {o : List Nat} (h : o.Nodup) (hm : ∀ i, i ∈ o ↔ s.testBit i = true) : setO o = s := by
  apply Nat.eq_of_testBit_eq
  intro i
  rw [setO_bit h]
  have := hm i
  cases hb : s.testBit i with
  | true => simpa [hb] using this
  | false => simpa [hb] using this

/-- Whether an order of boxes stands. -/
def slAt (l : List Ld) (x : Nat) : Int := match l[x]? with
  | some y => y.sl
  | none => 0

def standB (l : List Ld) (q : Int) : List Nat → Bool
  | [] => true
  | x :: o => decide (sumW l o ≤ slAt l x * q / 1000) && standB l q o

theorem lowB_at {l : List Ld} {q : Int} {f : Int → Bool} {s x : Nat} (hx : x < l.length) : lowB l q f s x = (f ((without s x : Nat) : Int) && decide (weightW l (without s x) ≤ slAt l x * q / 1000)) := by
  obtain ⟨y, hy⟩ : ∃ y, l[x]? = some y := ⟨l[x], by simp [hx]⟩
  unfold lowB slAt
  rw [hy]

theorem lowB_lt {l : List Ld} {q : Int} {f : Int → Bool} {s x : Nat} (h : lowB l q f s x = true) : x < l.length := by
  unfold lowB at h
  cases hx : l[x]? with
  | none => rw [hx] at h; cases h
  | some y => exact (List.getElem?_eq_some_iff.1 hx).1

/-- What stands in some order is a set that stands. -/
theorem set_stands {l : List Ld} (h10 : l.length ≤ 10) {q : Int} {K : Nat} : ∀ {o : List Nat}, o.Nodup → (∀ x ∈ o, x < l.length) → setO o < K → (∀ o', o'.Sublist o → setO o' < K) → standB l q o = true → standsTo l q K ((setO o : Nat) : Int) = true
  | [], _, _, _, _, _ => stands_zero K
  | x :: o, h, hx, hK, hsub, hst => by
    obtain ⟨h1, h2⟩ := List.nodup_cons.1 h
    have hx' : ∀ y ∈ o, y < l.length := fun y hy => hx y (List.mem_cons_of_mem _ hy)
    have h10' : ∀ y ∈ x :: o, y < 10 := fun y hy => Nat.lt_of_lt_of_le (hx y hy) h10
    unfold standB at hst
    simp only [Bool.and_eq_true, decide_eq_true_eq] at hst
    have ih := set_stands h10 h2 hx' (hsub o (List.sublist_cons_self x o)) (fun o' ho' => hsub o' (ho'.trans (List.sublist_cons_self x o))) hst.2
    have hbit : (setO (x :: o)).testBit x = true := by rw [setO_bit h]; simp
    have h0 : 0 < setO (x :: o) := by
      rcases Nat.eq_zero_or_pos (setO (x :: o)) with e | e
      · rw [e] at hbit
        simp at hbit
      · exact e
    rw [stands_iff hK h0 (setO_lt h10')]
    unfold lowO
    rw [List.find?_isSome]
    refine ⟨x, memb_of (h10' x List.mem_cons_self) hbit, ?_⟩
    rw [lowB_at (hx x List.mem_cons_self), setO_without, ih, weight_ofO l h2 (fun y hy => h10' y (List.mem_cons_of_mem _ hy))]
    simpa using hst.1

/-- The order of a set that stands: all its boxes, it stands, and no such order is smaller. -/
theorem order_good {l : List Ld} (h10 : l.length ≤ 10) {q : Int} {K : Nat} (hK : K ≤ 1024) : ∀ s : Nat, s < K → standsTo l q K (s : Int) = true →
    (orderL l q (standsTo l q K) s).Nodup ∧ (∀ i, i ∈ orderL l q (standsTo l q K) s ↔ s.testBit i = true) ∧ (∀ i ∈ orderL l q (standsTo l q K) s, i < l.length) ∧ standB l q (orderL l q (standsTo l q K) s) = true ∧
      ∀ o : List Nat, o.Nodup → (∀ i, i ∈ o ↔ s.testBit i = true) → (∀ i ∈ o, i < l.length) → standB l q o = true → lexI (intsN o) (intsN (orderL l q (standsTo l q K) s)) = false := by
  intro s
  induction s using Nat.strongRecOn with
  | ind s ih =>
    intro hs hst
    rcases Nat.eq_zero_or_pos s with rfl | h0
    · have e : orderL l q (standsTo l q K) 0 = [] := rfl
      rw [e]
      refine ⟨List.nodup_nil, by simp, by simp, rfl, fun o _ hm _ _ => ?_⟩
      cases o with
      | nil => rfl
      | cons x o => exact absurd ((hm x).1 List.mem_cons_self) (by simp)
    · rw [stands_iff hs h0 (by omega)] at hst
      obtain ⟨x, hx⟩ := Option.isSome_iff_exists.1 hst
      obtain ⟨h1, h2, h3⟩ := low_bit hx
      have hlt := without_lt (show s < 1024 by omega) h1 h2
      have hxl := lowB_lt h3
      have hb := without_bit h2
      rw [lowB_at hxl] at h3
      simp only [Bool.and_eq_true, decide_eq_true_eq] at h3
      obtain ⟨a1, a2, a3, a4, a5⟩ := ih (without s x) hlt (by omega) h3.1
      rw [orderL_step (by omega) h0 hx]
      have hset : setO (orderL l q (standsTo l q K) (without s x)) = without s x := set_of_mem (by omega) a1 a2
      have hnx : x ∉ orderL l q (standsTo l q K) (without s x) := fun e => by
        have := (a2 x).1 e
        rw [hb] at this
        simp at this
      refine ⟨List.nodup_cons.2 ⟨hnx, a1⟩, fun i => ?_, fun i hi => ?_, ?_, fun o ho hm hl' hso => ?_⟩
      · rw [List.mem_cons, a2, hb]
        by_cases e : x = i
        · subst e
          simp [h2]
        · have e2 : ¬ i = x := fun e' => e e'.symm
          simp [e, e2]
      · rcases List.mem_cons.1 hi with rfl | hi
        · exact hxl
        · exact a3 i hi
      · unfold standB
        rw [a4]
        have hw := weight_ofO l a1 (fun y hy => Nat.lt_of_lt_of_le (a3 y hy) h10)
        rw [hset] at hw
        rw [← hw]
        simpa using h3.2
      · cases o with
        | nil => exact absurd ((hm x).2 h2) (by simp)
        | cons y o =>
          obtain ⟨n1, n2⟩ := List.nodup_cons.1 ho
          unfold standB at hso
          simp only [Bool.and_eq_true, decide_eq_true_eq] at hso
          have hyl := hl' y List.mem_cons_self
          have hys : s.testBit y = true := (hm y).1 List.mem_cons_self
          have hol : ∀ i ∈ o, i < l.length := fun i hi => hl' i (List.mem_cons_of_mem _ hi)
          have hmy : ∀ i, i ∈ o ↔ (without s y).testBit i = true := fun i => by
            rw [without_bit hys]
            have := hm i
            by_cases e : y = i
            · subst e
              simp [n1]
            · have e2 : ¬ i = y := fun e' => e e'.symm
              simp only [List.mem_cons, e2, false_or] at this
              rw [this]
              simp [e]
          have hsety : setO o = without s y := set_of_mem (by have := without_lt (show s < 1024 by omega) (Nat.lt_of_lt_of_le hyl h10) hys; omega) n2 hmy
          have hlty := without_lt (show s < 1024 by omega) (Nat.lt_of_lt_of_le hyl h10) hys
          have hsy : standsTo l q K ((without s y : Nat) : Int) = true := by
            rw [← hsety]
            refine set_stands h10 n2 hol (by rw [hsety]; omega) (fun o' ho' => ?_) hso.2
            have hle : setO o' ≤ setO o := by
              have hn' := n2.sublist ho'
              have : setO o' &&& setO o = setO o' := by
                apply Nat.eq_of_testBit_eq
                intro i
                rw [Nat.testBit_and, setO_bit hn', setO_bit n2]
                by_cases e : i ∈ o'
                · simp [e, ho'.subset e]
                · simp [e]
              rw [← this]
              exact Nat.and_le_right
            rw [hsety] at hle
            omega
          have hlow : lowB l q (standsTo l q K) s y = true := by
            rw [lowB_at hyl, hsy]
            have hw := weight_ofO l n2 (fun z hz => Nat.lt_of_lt_of_le (hol z hz) h10)
            rw [hsety] at hw
            rw [hw]
            simpa using hso.1
          have hxy : x ≤ y := by
            have hmin : ∀ z ∈ membL s, lowB l q (standsTo l q K) s z = true → x ≤ z := by
              unfold lowO at hx
              intro z hz hlz
              obtain ⟨us, vs, hab, hno⟩ := (List.find?_eq_some_iff_append.1 hx).2
              rw [hab] at hz
              have hsort : (membL s).Pairwise (· < ·) := by
                unfold membL membTo
                exact List.Pairwise.filter _ List.pairwise_lt_range
              rw [hab] at hsort
              rcases List.mem_append.1 hz with hz | hz
              · have := hno z hz
                rw [hlz] at this
                simp at this
              · rcases List.mem_cons.1 hz with rfl | hz
                · exact Nat.le_refl _
                · have := (List.pairwise_cons.1 (List.pairwise_append.1 hsort).2.1).1 z hz
                  omega
            exact hmin y (memb_of (Nat.lt_of_lt_of_le hyl h10) hys) hlow
          show lexI ((y : Int) :: intsN o) ((x : Int) :: intsN (orderL l q (standsTo l q K) (without s x))) = false
          unfold lexI
          by_cases e : y = x
          · subst e
            rw [if_pos rfl]
            exact a5 o n2 hmy hol hso.2
          · rw [if_neg (by omega)]
            simp
            omega

end Go.Proofs.Ytcdilmagcdbogaa

namespace Go.Proofs.Ytcdilmagcdbogaa
set_option linter.unusedVariables false
set_option linter.unusedSimpArgs false
open Go.RowKit

/-- A variable that was made holds what it was made with, and once written what was written. -/
def PairHeld (W : World) (x : Nat → Value) (v : World) (l : Array Bool) (p q : Nat) (c c' : List Value) : Prop := l.getD p false = true → ∃ b, x p = .pointer (some ⟨b, 0, none⟩) ∧ W.heap.size ≤ b ∧ Own v b (if l.getD q false = true then c' else c)

theorem PairHeld.gr {W v v' : World} {x : Nat → Value} {l : Array Bool} {p q i : Nat} {c c' : List Value} (h : PairHeld W x v l p q c c') (g : Gr v v') (u : Value) (hp : i ≠ p) (hq : i ≠ q) : PairHeld W (upd x i u) v' (l.setIfInBounds i true) p q c c' := by
  intro e
  rw [getD_set_ne false hp] at e
  obtain ⟨b, h1, h2, h3⟩ := h e
  refine ⟨b, ?_, h2, ?_⟩
  · rw [upd_ne x u (fun e => hp e.symm)]
    exact h1
  · rw [getD_set_ne false hq]
    exact h3.keep g

theorem PairHeld.kx {W v v' : World} {x : Nat → Value} {l : Array Bool} {p q i : Nat} {c c' : List Value} (h : PairHeld W x v l p q c c') {d : Nat} (g : Kx (fun b => b = d) v v') (hne : l.getD p false = true → x p ≠ .pointer (some ⟨d, 0, none⟩)) (hp : i ≠ p) (hq : i ≠ q) : PairHeld W x v' (l.setIfInBounds i true) p q c c' := by
  intro e
  rw [getD_set_ne false hp] at e
  obtain ⟨b, h1, h2, h3⟩ := h e
  refine ⟨b, h1, h2, ?_⟩
  rw [getD_set_ne false hq]
  exact h3.kx g (fun e2 => hne e (by rw [h1, e2]))

theorem wp_region_fresh2 {P : Program} {Q : Exit → Act → World → Prop} {id : Nat} {W : World} {l : List Oper} (n p1 q1 p2 q2 : Nat) (c1 d1 c2 d2 : List Value) (t1 t2 : TypeId) (ds : List (Nat × Nat)) (fr : (Nat → Value) → Act) (x0 : Nat → Value) (Fs : List (World → Value → Prop)) {a : Act} (ha : a = fr x0) (hm : P.follows .mixedOrders = true)
    (hB : (decide (n < l.toArray.size) && Region.sinkB .any l.toArray n && Region.chainB .any l.toArray n && minB .any l.toArray n && Region.seqB .any l.toArray (l.toArray.size - n) n (Array.replicate n true ++ Array.replicate (l.toArray.size - n) false)) = true)
    (hD : depB .any l.toArray ds = true) (hd1 : (q1, p1) ∈ ds) (hd2 : q2 < n → (q2, p2) ∈ ds) (hne : [p1, q1, p2, q2].Nodup) (hn : p1 < n ∧ q1 < n ∧ p2 < n)
    (hst : ∀ (i : Nat) (F : World → Value → Prop), Fs[i]? = some F → StaysZ (fun b => W.heap.size ≤ b) F)
    (hstep : ∀ i, i < n → i ≠ p1 → i ≠ q1 → i ≠ p2 → i ≠ q2 → ∀ x v, Gr W v → (∀ (j : Nat) (F : World → Value → Prop), (i, j) ∈ ds → ¬ j ∈ [p1, q1, p2, q2] → Fs[j]? = some F → F v (x j)) → ∀ K : Act → World → Prop, (∀ u v', Gr v v' → (∀ F : World → Value → Prop, Fs[i]? = some F → F v' u) → K (fr (upd x i u)) v') → wpOp P l.toArray Q i K (fr x) v)
    (hp1 : ∀ x v, Gr W v → ∀ K : Act → World → Prop, K (fr (upd x p1 (.pointer (some ⟨v.heap.size, 0, none⟩)))) (v.alloc (.cells c1.toArray t1)) → wpOp P l.toArray Q p1 K (fr x) v)
    (hp2 : ∀ x v, Gr W v → ∀ K : Act → World → Prop, K (fr (upd x p2 (.pointer (some ⟨v.heap.size, 0, none⟩)))) (v.alloc (.cells c2.toArray t2)) → wpOp P l.toArray Q p2 K (fr x) v)
    (hq1 : ∀ x v b, Gr W v → W.heap.size ≤ b → x p1 = .pointer (some ⟨b, 0, none⟩) → Own v b c1 → (∀ (j : Nat) (F : World → Value → Prop), (q1, j) ∈ ds → ¬ j ∈ [p1, q1, p2, q2] → Fs[j]? = some F → F v (x j)) → ∀ K : Act → World → Prop, (∀ v', Kx (fun k => k = b) v v' → Own v' b d1 → K (fr x) v') → wpOp P l.toArray Q q1 K (fr x) v)
    (hq2 : q2 < n → ∀ x v b, Gr W v → W.heap.size ≤ b → x p2 = .pointer (some ⟨b, 0, none⟩) → Own v b c2 → (∀ (j : Nat) (F : World → Value → Prop), (q2, j) ∈ ds → ¬ j ∈ [p1, q1, p2, q2] → Fs[j]? = some F → F v (x j)) → ∀ K : Act → World → Prop, (∀ v', Kx (fun k => k = b) v v' → Own v' b d2 → K (fr x) v') → wpOp P l.toArray Q q2 K (fr x) v)
    (hend : ∀ x v b1 b2, Gr W v → W.heap.size ≤ b1 → W.heap.size ≤ b2 → b1 ≠ b2 → x p1 = .pointer (some ⟨b1, 0, none⟩) → x p2 = .pointer (some ⟨b2, 0, none⟩) → Own v b1 d1 → Own v b2 (if q2 < n then d2 else c2) → (∀ (j : Nat) (F : World → Value → Prop), j < n → ¬ j ∈ [p1, q1, p2, q2] → Fs[j]? = some F → F v (x j)) → wpList P l.toArray Q (l.drop n) (fr x) v) : (Code.region id l.toArray true).wp P Q a W := by
  subst ha
  obtain ⟨hn1, hn2, hn3⟩ := hn
  simp only [List.nodup_cons, List.mem_cons, List.not_mem_nil, not_or, or_false, not_false_eq_true, List.nodup_nil, and_true] at hne
  obtain ⟨⟨e1, e2, e3⟩, ⟨e4, e5⟩, e6⟩ := hne
  have kz : ∀ {v v' : World}, Gr v v' → Kx (fun b => W.heap.size ≤ b) v v' := fun g => Kx.gr g
  have kb : ∀ {v v' : World} {b : Nat}, W.heap.size ≤ b → Kx (fun k => k = b) v v' → Kx (fun b => W.heap.size ≤ b) v v' := fun hb g => g.mono (fun i e => .inl (by subst e; exact hb))
  have kg : ∀ {v v' : World} {b : Nat}, Gr W v → W.heap.size ≤ b → Kx (fun k => k = b) v v' → Gr W v' := fun hg hb g => Kx.toGr ((Kx.gr (Z := noBlock) hg).th g (fun i e => .inr (by subst e; exact hb)))
  have ptr_lt : ∀ {v : World} {b : Nat} {cs : List Value}, Own v b cs → (Value.pointer (some ⟨b, 0, none⟩)) ≠ .pointer (some ⟨v.heap.size, 0, none⟩) := fun o e => by
    have := o.1.1
    simp only [Value.pointer.injEq, Option.some.injEq, Addr.mk.injEq, and_true] at e
    omega
  refine wp_region_inv' n ds (fun _ listed a v => ∃ x, a = fr x ∧ Gr W v ∧ (∀ (j : Nat) (F : World → Value → Prop), ¬ j ∈ [p1, q1, p2, q2] → Fs[j]? = some F → listed.getD j false = true → F v (x j)) ∧ PairHeld W x v listed p1 q1 c1 d1 ∧ PairHeld W x v listed p2 q2 c2 d2 ∧ (listed.getD p1 false = true → listed.getD p2 false = true → x p1 ≠ x p2) ∧ (listed.getD q1 false = true → listed.getD p1 false = true) ∧ (listed.getD q2 false = true → listed.getD p2 false = true) ∧ (listed.getD q2 false = true → q2 < n)) hm hB hD ⟨x0, rfl, Gr.dr W, fun j F _ _ h => (by rw [getD_replicate_false] at h; cases h), fun h => (by rw [getD_replicate_false] at h; cases h), fun h => (by rw [getD_replicate_false] at h; cases h), fun h => (by rw [getD_replicate_false] at h; cases h), fun h => (by rw [getD_replicate_false] at h; cases h), fun h => (by rw [getD_replicate_false] at h; cases h), fun h => (by rw [getD_replicate_false] at h; cases h)⟩ ?_ ?_
  · rintro i hi listed a v hun hdep ⟨x, rfl, gv, hf, h1, h2, h3, h4, h5, h6⟩
    have hdf : ∀ (j : Nat) (F : World → Value → Prop), (i, j) ∈ ds → ¬ j ∈ [p1, q1, p2, q2] → Fs[j]? = some F → F v (x j) := fun j F hj e1 hF => hf j F e1 hF (hdep j hj)
    have fkeep : ∀ {v' : World} (u : Value), Kx (fun b => W.heap.size ≤ b) v v' → i ∈ [p1, q1, p2, q2] → ∀ (j : Nat) (F : World → Value → Prop), ¬ j ∈ [p1, q1, p2, q2] → Fs[j]? = some F → (listed.setIfInBounds i true).getD j false = true → F v' (upd x i u j) := fun u k hi j F hj hF hl => by
      have hji : j ≠ i := fun e => hj (e ▸ hi)
      rw [upd_ne x u hji]
      exact hst j F hF v _ _ k (hf j F hj hF (by rwa [getD_set_ne false (fun e => hji e.symm)] at hl))
    have fkeep' : ∀ {v' : World}, Kx (fun b => W.heap.size ≤ b) v v' → i ∈ [p1, q1, p2, q2] → ∀ (j : Nat) (F : World → Value → Prop), ¬ j ∈ [p1, q1, p2, q2] → Fs[j]? = some F → (listed.setIfInBounds i true).getD j false = true → F v' (x j) := fun k hi j F hj hF hl => by
      have hji : j ≠ i := fun e => hj (e ▸ hi)
      exact hst j F hF v _ _ k (hf j F hj hF (by rwa [getD_set_ne false (fun e => hji e.symm)] at hl))
    obtain ⟨hif, hit⟩ := getD_hun hun
    by_cases a1 : i = p1
    · subst a1
      have hg := Gr.al v (.cells c1.toArray t1)
      have hqf : listed.getD q1 false = false := by
        cases hb : listed.getD q1 false with
        | false => rfl
        | true =>
          have := h4 hb
          rw [hif] at this
          cases this
      refine hp1 x v gv _ ⟨_, rfl, gv.tr hg, fkeep _ (kz hg) (by simp), fun _ => ⟨_, upd_at _ _ _, gv.size, ?_⟩, h2.gr hg _ e2 e3, fun _ hl => ?_, fun _ => hit, fun hl => ?_, fun hl => ?_⟩
      · rw [getD_set_ne false e1, hqf]
        exact Own.new v c1 t1 _ rfl
      · rw [getD_set_ne false e2] at hl
        obtain ⟨b, g1, g2, g3⟩ := h2 hl
        rw [upd_at, upd_ne x _ (fun e => e2 e.symm), g1]
        exact fun e => ptr_lt g3 e.symm
      · rw [getD_set_ne false e3] at hl
        rw [getD_set_ne false e2]
        exact h5 hl
      · rw [getD_set_ne false e3] at hl
        exact h6 hl
    · by_cases a2 : i = p2
      · subst a2
        have hg := Gr.al v (.cells c2.toArray t2)
        have hqf : listed.getD q2 false = false := by
          cases hb : listed.getD q2 false with
          | false => rfl
          | true =>
            have := h5 hb
            rw [hif] at this
            cases this
        refine hp2 x v gv _ ⟨_, rfl, gv.tr hg, fkeep _ (kz hg) (by simp), h1.gr hg _ a1 (fun e => e4 e.symm), fun _ => ⟨_, upd_at _ _ _, gv.size, ?_⟩, fun hl _ => ?_, fun hl => ?_, fun _ => hit, fun hl => ?_⟩
        · rw [getD_set_ne false e6, hqf]
          exact Own.new v c2 t2 _ rfl
        · rw [getD_set_ne false a1] at hl
          obtain ⟨b, g1, g2, g3⟩ := h1 hl
          rw [upd_at, upd_ne x _ (fun e => a1 e.symm), g1]
          exact fun e => ptr_lt g3 e
        · rw [getD_set_ne false (fun e => e4 e.symm)] at hl
          rw [getD_set_ne false a1]
          exact h4 hl
        · rw [getD_set_ne false e6] at hl
          exact h6 hl
      · by_cases a3 : i = q1
        · subst a3
          have hpt := hdep p1 hd1
          obtain ⟨b, g1, g2, g3⟩ := h1 hpt
          rw [hif] at g3
          refine hq1 x v b gv g2 g1 g3 hdf _ (fun v' k o => ⟨x, rfl, kg gv g2 k, fkeep' (kb g2 k) (by simp), fun _ => ⟨b, g1, g2, ?_⟩, h2.kx k (fun hl e => h3 hpt hl (by rw [g1, e])) e4 e5, fun ha hb => ?_, fun _ => ?_, fun hl => ?_, fun hl => ?_⟩)
          · rw [hit]
            exact o
          · rw [getD_set_ne false (fun e => e1 e.symm)] at ha
            rw [getD_set_ne false e4] at hb
            exact h3 ha hb
          · rw [getD_set_ne false (fun e => e1 e.symm)]
            exact hpt
          · rw [getD_set_ne false e5] at hl
            rw [getD_set_ne false e4]
            exact h5 hl
          · rw [getD_set_ne false e5] at hl
            exact h6 hl
        · by_cases a4 : i = q2
          · subst a4
            have hpt := hdep p2 (hd2 hi)
            obtain ⟨b, g1, g2, g3⟩ := h2 hpt
            rw [hif] at g3
            refine hq2 hi x v b gv g2 g1 g3 hdf _ (fun v' k o => ⟨x, rfl, kg gv g2 k, fkeep' (kb g2 k) (by simp), h1.kx k (fun hl e => h3 hl hpt (by rw [g1, e])) a1 a3, fun _ => ⟨b, g1, g2, ?_⟩, fun ha hb => ?_, fun hl => ?_, fun _ => ?_, fun _ => hi⟩)
            · rw [hit]
              exact o
            · rw [getD_set_ne false a1] at ha
              rw [getD_set_ne false a2] at hb
              exact h3 ha hb
            · rw [getD_set_ne false a3] at hl
              rw [getD_set_ne false a1]
              exact h4 hl
            · rw [getD_set_ne false a2]
              exact hpt
          · refine hstep i hi a1 a3 a2 a4 x v gv hdf _ (fun u v' hg hu => ⟨upd x i u, rfl, gv.tr hg, fun j F hj hF hl => ?_, h1.gr hg u a1 a3, h2.gr hg u a2 a4, fun ha hb => ?_, fun hl => ?_, fun hl => ?_, fun hl => ?_⟩)
            · by_cases e : j = i
              · subst e
                rw [upd_at]
                exact hu F hF
              · rw [upd_ne x u e]
                exact hst j F hF v v' _ (kz hg) (hf j F hj hF (by rwa [getD_set_ne false (fun e' => e e'.symm)] at hl))
            · rw [getD_set_ne false a1] at ha
              rw [getD_set_ne false a2] at hb
              rw [upd_ne x u (fun e => a1 e.symm), upd_ne x u (fun e => a2 e.symm)]
              exact h3 ha hb
            · rw [getD_set_ne false a3] at hl
              rw [getD_set_ne false a1]
              exact h4 hl
            · rw [getD_set_ne false a4] at hl
              rw [getD_set_ne false a2]
              exact h5 hl
            · rw [getD_set_ne false a4] at hl
              exact h6 hl
  · rintro listed a v hs hall ⟨x, rfl, gv, hf, h1, h2, h3, h4, h5, h6⟩
    have hl : ∀ j, j < n → listed.getD j false = true := fun j hj => by
      have e1 := hall j hj
      have hl : j < listed.size := by omega
      simp [hl] at e1 ⊢
      exact e1
    obtain ⟨b1, g1, g2, g3⟩ := h1 (hl _ hn1)
    obtain ⟨b2, g4, g5, g6⟩ := h2 (hl _ hn3)
    rw [hl _ hn2] at g3
    have e7 : (if q2 < n then d2 else c2) = (if listed.getD q2 false = true then d2 else c2) := by
      by_cases e : q2 < n
      · rw [if_pos e, hl _ e, if_pos rfl]
      · rw [if_neg e, if_neg (fun e' => e (h6 e'))]
    rw [← e7] at g6
    exact hend x v b1 b2 gv g2 g5 (fun e => h3 (hl _ hn1) (hl _ hn3) (by rw [g1, g4, e])) g1 g4 g3 g6 (fun j F hj e1 hF => hf j F e1 hF (hl j hj))

/-- Two appends, the second one behind an operation that waits for the first. -/
theorem wp_region_two3 {P : Program} {Q : Exit → Act → World → Prop} {id : Nat} {W : World} {l : List Oper} (Z : Nat → Prop) (n p q m : Nat) (ds : List (Nat × Nat)) (fr : (Nat → Value) → Act) (x0 : Nat → Value) (Fs : List (World → Value → Prop)) (C : World → Prop) (S0 : World → Prop) (S1 : World → Value → Prop) (S2 : World → Value → Value → Prop) {a : Act} (ha : a = fr x0) (hm : P.follows .mixedOrders = true)
    (hB : (decide (n < l.toArray.size) && Region.sinkB .any l.toArray n && Region.chainB .any l.toArray n && minB .any l.toArray n && Region.seqB .any l.toArray (l.toArray.size - n) n (Array.replicate n true ++ Array.replicate (l.toArray.size - n) false)) = true)
    (hD : depB .any l.toArray ds = true) (hqm : (q, m) ∈ ds) (hmp : (m, p) ∈ ds) (hne : p ≠ q) (hpn : p < n) (hqn : q < n)
    (hst : ∀ (i : Nat) (F : World → Value → Prop), Fs[i]? = some F → StaysZ Z F) (hC : ∀ v v', Kx Z v v' → C v → C v')
    (h0 : ∀ v v', Gr v v' → S0 v → S0 v') (h1 : ∀ v v' x, Gr v v' → S1 v x → S1 v' x) (h2 : ∀ v v' x y, Gr v v' → S2 v x y → S2 v' x y)
    (hC0 : C W.drew) (hS0 : S0 W.drew)
    (hstep : ∀ i, i < n → i ≠ p → i ≠ q → ∀ x v, C v → (∀ (j : Nat) (F : World → Value → Prop), (i, j) ∈ ds → j ≠ p → j ≠ q → Fs[j]? = some F → F v (x j)) → ∀ K : Act → World → Prop, (∀ u v', Gr v v' → (∀ F : World → Value → Prop, Fs[i]? = some F → F v' u) → K (fr (upd x i u)) v') → wpOp P l.toArray Q i K (fr x) v)
    (hp : ∀ x v, C v → S0 v → (∀ (j : Nat) (F : World → Value → Prop), (p, j) ∈ ds → j ≠ p → j ≠ q → Fs[j]? = some F → F v (x j)) → ∀ K : Act → World → Prop, (∀ u v', Kx Z v v' → S1 v' u → K (fr (upd x p u)) v') → wpOp P l.toArray Q p K (fr x) v)
    (hq : ∀ x v, C v → S1 v (x p) → (∀ (j : Nat) (F : World → Value → Prop), (q, j) ∈ ds → j ≠ p → j ≠ q → Fs[j]? = some F → F v (x j)) → ∀ K : Act → World → Prop, (∀ u v', Kx Z v v' → S2 v' (x p) u → K (fr (upd x q u)) v') → wpOp P l.toArray Q q K (fr x) v)
    (hend : ∀ x v, C v → S2 v (x p) (x q) → (∀ (j : Nat) (F : World → Value → Prop), j < n → j ≠ p → j ≠ q → Fs[j]? = some F → F v (x j)) → wpList P l.toArray Q (l.drop n) (fr x) v) : (Code.region id l.toArray true).wp P Q a W := by
  subst ha
  refine wp_region_inv' n ds (fun _ listed a v => ∃ x, a = fr x ∧ C v ∧ (∀ (j : Nat) (F : World → Value → Prop), j ≠ p → j ≠ q → Fs[j]? = some F → listed.getD j false = true → F v (x j)) ∧ (listed.getD q false = true → listed.getD p false = true ∧ S2 v (x p) (x q)) ∧ (listed.getD q false = false → listed.getD p false = true → S1 v (x p)) ∧ (listed.getD p false = false → S0 v) ∧ (listed.getD m false = true → listed.getD p false = true)) hm hB hD ⟨x0, rfl, hC0, fun j F _ _ _ h => (by rw [getD_replicate_false] at h; cases h), fun h => (by rw [getD_replicate_false] at h; cases h), fun _ h => (by rw [getD_replicate_false] at h; cases h), fun _ => hS0, fun h => (by rw [getD_replicate_false] at h; cases h)⟩ ?_ ?_
  · rintro i hi listed a v hun hdep ⟨x, rfl, hc, hf, a2, a1, a0, am⟩
    have hup : ∀ k, listed.getD k false = true → (listed.setIfInBounds i true).getD k false = true := fun k hk => by
      by_cases e : i = k
      · subst e
        exact (getD_hun hun).2
      · rw [getD_set_ne false e]
        exact hk
    have hm2 : (listed.setIfInBounds i true).getD m false = true → (listed.setIfInBounds i true).getD p false = true := fun h => by
      by_cases e : i = m
      · subst e
        exact hup p (hdep p hmp)
      · rw [getD_set_ne false e] at h
        exact hup p (am h)
    have hdf : ∀ (j : Nat) (F : World → Value → Prop), (i, j) ∈ ds → j ≠ p → j ≠ q → Fs[j]? = some F → F v (x j) := fun j F hj e1 e2 hF => hf j F e1 e2 hF (hdep j hj)
    by_cases ep : i = p
    · subst ep
      have hpf := (getD_hun hun).1
      have hqf : listed.getD q false = false := by
        cases hb : listed.getD q false with
        | false => rfl
        | true =>
          have := (a2 hb).1
          rw [hpf] at this
          cases this
      refine hp x v hc (a0 hpf) hdf _ (fun u v' hg hu => ⟨upd x i u, rfl, hC v v' hg hc, fun j F e1 e2 hF hl => ?_, fun h => ?_, fun _ _ => ?_, fun h => ?_, hm2⟩)
      · rw [upd_ne x u e1]
        exact hst j F hF v v' _ hg (hf j F e1 e2 hF (by rwa [getD_set_ne false (fun e' => e1 e'.symm)] at hl))
      · rw [getD_set_ne false hne, hqf] at h
        cases h
      · rw [upd_at]
        exact hu
      · rw [(getD_hun hun).2] at h
        cases h
    · by_cases eq : i = q
      · subst eq
        have hpt := am (hdep m hqm)
        have hqf := (getD_hun hun).1
        refine hq x v hc (a1 hqf hpt) hdf _ (fun u v' hg hu => ⟨upd x i u, rfl, hC v v' hg hc, fun j F e1 e2 hF hl => ?_, fun h => ⟨?_, ?_⟩, fun h => ?_, fun h => ?_, hm2⟩)
        · rw [upd_ne x u e2]
          exact hst j F hF v v' _ hg (hf j F e1 e2 hF (by rwa [getD_set_ne false (fun e' => e2 e'.symm)] at hl))
        · rw [getD_set_ne false (fun e => hne e.symm)]
          exact hpt
        · rw [upd_at, upd_ne x u hne]
          exact hu
        · rw [(getD_hun hun).2] at h
          cases h
        · rw [getD_set_ne false (fun e => hne e.symm), hpt] at h
          cases h
      · refine hstep i hi ep eq x v hc hdf _ (fun u v' hg hu => ⟨upd x i u, rfl, hC v v' (Kx.gr hg) hc, fun j F e1 e2 hF hl => ?_, fun h => ?_, fun h h' => ?_, fun h => ?_, hm2⟩)
        · by_cases e : j = i
          · subst e
            rw [upd_at]
            exact hu F hF
          · rw [upd_ne x u e]
            exact hst j F hF v v' _ (Kx.gr hg) (hf j F e1 e2 hF (by rwa [getD_set_ne false (fun e' => e e'.symm)] at hl))
        · rw [getD_set_ne false eq] at h
          rw [getD_set_ne false ep, upd_ne x u (fun e => ep e.symm), upd_ne x u (fun e => eq e.symm)]
          exact ⟨(a2 h).1, h2 v v' _ _ hg (a2 h).2⟩
        · rw [getD_set_ne false eq] at h
          rw [getD_set_ne false ep] at h'
          rw [upd_ne x u (fun e => ep e.symm)]
          exact h1 v v' _ hg (a1 h h')
        · rw [getD_set_ne false ep] at h
          exact h0 v v' hg (a0 h)
  · rintro listed a v hs hall ⟨x, rfl, hc, hf, a2, a1, a0, _⟩
    have hl : ∀ j, j < n → listed.getD j false = true := fun j hj => by
      have e1 := hall j hj
      have hl : j < listed.size := by omega
      simp [hl] at e1 ⊢
      exact e1
    exact hend x v hc (a2 (hl q hqn)).2 (fun j F hj e1 e2 hF => hf j F e1 e2 hF (hl j hj))

end Go.Proofs.Ytcdilmagcdbogaa
