/- The fewest readings that are left out: the least list of all sets is one of the windows'. The reference's In, Span, Box, Strength of chapter 3. TopTestedBoard's numbers: lots that surely pass, surely fail. crush: what is known of a lot, as more is read of it. Append onto one of two rows: the rows stay apart. Contracts of the law's ints and passes. The reference's Readings, Rule, Passes of chapter 3; Decide and Need of what is not valid. (Made by gen_o4.py.) A region that draws its order, in which two rows are appended to, one after the other: the facts of the other operations stay while blocks of Z alone turn; the rows' state goes from S0 to S1 to S2. A region that draws its order: many operations that only read, one operation that does not wait for them (an allocation), then stores: one walk of the reads serves every order. The law's lot: a rule, an off, truths and readings. The reference's Truth and Decide of chapter 3. (Made by gen_o5.py.) The reference's Less and Close of chapter 3. The reference's Odd of chapter 3: all sets of readings. The reference's Odd of chapter 3. The reference's Decide of chapter 3. (Made by gen_o6.py.) CrushSure's calls: the copy of readings, Decide. CrushFew: the fewest tests. The law's ints of any slice; the reference's Need of chapter 3. (Made by gen_o7.py.) CrushOdds' own body. (Made by gen_u5.py.) A law's end: it returned true and the world only grew. And: what an argument is that is made of integers of one kind. Contracts of pubMade, pubSingle, pubDouble. Contract of pubOwn: a copy of a store. Contract of pubStore. The contract of armStore. (Made by gen_arm1.py.) What an argument is that is a slice of small arrays of bytes; a struct of three slices. A lot that comes in. Boxes, stacks and tables that come in. -/
import Derived.Test.YtjdeojpapdphoaaQI33b
import Derived.Test.YtjdeojpapdphoaaQI33a
import Derived.BigQuiet
import Derived.Lib.MinMax
import Derived.Deep.CutRange
import Derived.Deep.AppendLies
import Derived.Deep.MidRow
import Derived.Test.YtjdeojpapdphoaaQI33c
import Derived.ProofKit
import Derived.OpenShut
import Derived.ChangeSame
import Derived.Carry
import Derived.Deep.RegionHeld3
import Derived.Deep.QuietTactic
import Derived.Deep.DeepCutAuto
namespace Go.Proofs.Ytjdeojpapdphoaa
set_option linter.unusedVariables false
set_option linter.unusedSimpArgs false
open Go.RowKit

/-- The shorter list is smaller, then number by number. -/
def lexI : List Int → List Int → Bool
  | x :: a, y :: b => if x = y then lexI a b else decide (x < y)
  | _, _ => false

def lessI (a b : List Int) : Bool := if a.length = b.length then lexI a b else decide (a.length < b.length)

theorem lexI_self : ∀ a : List Int, lexI a a = false
  | [] => rfl
  | x :: a => by
    unfold lexI
    rw [if_pos rfl]
    exact lexI_self a

theorem lexI_at : ∀ (a b : List Int) (k : Nat) (x y : Int), a.take k = b.take k → a[k]? = some x → b[k]? = some y → x ≠ y → lexI a b = decide (x < y)
  | [], b, k, x, y, _, h, _, _ => by simp at h
  | u :: a, [], k, x, y, _, _, h, _ => by simp at h
  | u :: a, v :: b, 0, x, y, _, h1, h2, h3 => by
    simp at h1 h2
    subst h1
    subst h2
    unfold lexI
    rw [if_neg h3]
  | u :: a, v :: b, k + 1, x, y, h0, h1, h2, h3 => by
    simp only [List.take_succ_cons, List.cons.injEq] at h0
    unfold lexI
    rw [if_pos h0.1]
    exact lexI_at a b k x y h0.2 (by simpa using h1) (by simpa using h2) h3

theorem lexI_trans : ∀ (a b c : List Int), a.length = b.length → b.length = c.length → lexI a b = true → lexI b c = true → lexI a c = true
  | [], b, c, _, _, h, _ => by cases b <;> simp [lexI] at h
  | x :: a, [], c, h, _, _, _ => by simp at h
  | x :: a, y :: b, [], _, h, _, _ => by simp at h
  | x :: a, y :: b, z :: c, h1, h2, h3, h4 => by
    simp only [lexI] at h3 h4 ⊢
    simp only [List.length_cons, Nat.add_right_cancel_iff] at h1 h2
    by_cases e1 : x = y
    · rw [if_pos e1] at h3
      subst e1
      by_cases e2 : x = z
      · rw [if_pos e2] at h4 ⊢
        exact lexI_trans a b c h1 h2 h3 h4
      · rw [if_neg e2] at h4 ⊢
        exact h4
    · rw [if_neg e1] at h3
      simp only [decide_eq_true_eq] at h3
      by_cases e2 : y = z
      · subst e2
        rw [if_neg e1]
        simpa using h3
      · rw [if_neg e2] at h4
        simp only [decide_eq_true_eq] at h4
        rw [if_neg (by omega)]
        simp
        omega

theorem lexI_tri : ∀ (a b : List Int), a.length = b.length → lexI a b = false → lexI b a = false → a = b
  | [], b, h, _, _ => by cases b with
    | nil => rfl
    | cons y b => simp at h
  | x :: a, [], h, _, _ => by simp at h
  | x :: a, y :: b, h, h1, h2 => by
    simp only [lexI] at h1 h2
    simp only [List.length_cons, Nat.add_right_cancel_iff] at h
    by_cases e : x = y
    · subst e
      rw [if_pos rfl] at h1 h2
      rw [lexI_tri a b h h1 h2]
    · rw [if_neg e] at h1
      rw [if_neg (fun e' => e e'.symm)] at h2
      simp only [decide_eq_false_iff_not] at h1 h2
      omega

theorem lessI_trans {a b c : List Int} (h1 : lessI a b = true) (h2 : lessI b c = true) : lessI a c = true := by
  unfold lessI at h1 h2 ⊢
  by_cases e1 : a.length = b.length
  · rw [if_pos e1] at h1
    by_cases e2 : b.length = c.length
    · rw [if_pos e2] at h2
      rw [if_pos (e1.trans e2)]
      exact lexI_trans a b c e1 e2 h1 h2
    · rw [if_neg e2] at h2
      rw [if_neg (by omega), e1]
      exact h2
  · rw [if_neg e1] at h1
    simp only [decide_eq_true_eq] at h1
    by_cases e2 : b.length = c.length
    · rw [if_neg (by omega)]
      simp
      omega
    · rw [if_neg e2] at h2
      simp only [decide_eq_true_eq] at h2
      rw [if_neg (by omega)]
      simp
      omega

theorem lessI_tri {a b : List Int} (h1 : lessI a b = false) (h2 : lessI b a = false) : a = b := by
  unfold lessI at h1 h2
  by_cases e : a.length = b.length
  · rw [if_pos e] at h1
    rw [if_pos e.symm] at h2
    exact lexI_tri a b e h1 h2
  · rw [if_neg e] at h1
    rw [if_neg (fun e' => e e'.symm)] at h2
    simp only [decide_eq_false_iff_not] at h1 h2
    omega

theorem comp_lex : ∀ (a b : List Int), a.length = b.length → (compL a b < 0 ↔ lexI a b = true)
  | [], [], _ => by simp [compL, lexI]
  | [], y :: b, h => by simp at h
  | x :: a, [], h => by simp at h
  | x :: a, y :: b, h => by
    have ih := comp_lex a b (by simpa using h)
    unfold compL lexI
    by_cases e : x = y
    · subst e
      rw [if_pos (by simp [Lib.compareInt]), if_pos rfl]
      exact ih
    · rcases Int.lt_or_gt_of_ne e with e2 | e2
      · have hc : Lib.compareInt x y = -1 := by unfold Lib.compareInt; rw [if_pos e2]
        rw [hc, if_neg (by decide), if_neg e]
        simp [e2]
      · have hc : Lib.compareInt x y = 1 := by unfold Lib.compareInt; rw [if_neg (by omega), if_pos e2]
        rw [hc, if_neg (by decide), if_neg e]
        have : ¬ x < y := by omega
        simp [this]

/-- What can be true of a reading. -/
def loO (off r : Int) : Int := max 0 (r - off)

def hiO (off r : Int) : Int := min 100000 (r + off)

def closeB (off spread : Int) (R : List Int) : Bool := R.all (fun x => R.all (fun y => decide (loO off x - hiO off y ≤ spread)))

theorem close_iff {off spread : Int} {R : List Int} : closeB off spread R = true ↔ ∀ x ∈ R, ∀ y ∈ R, loO off x - hiO off y ≤ spread := by
  unfold closeB
  simp only [List.all_eq_true, decide_eq_true_eq]

/-- The readings that are left out by a set, and the others. -/
def outQ (n : Nat) (q : Nat → Bool) : List Nat := (List.range n).filter q

def restQ (l : List Int) (q : Nat → Bool) : List Int := ((List.range l.length).filter (fun i => !q i)).map (fun i => l.getD i 0)

def winB (off spread : Int) (l : List Int) (j i : Nat) : Bool := !inWin off spread (hiO off (l.getD j 0)) (l.getD i 0)

theorem left_out (off spread : Int) (l : List Int) (j : Nat) : leftL off spread l j = outQ l.length (winB off spread l j) := rfl

theorem win_iff {off spread : Int} {l : List Int} {j i : Nat} : winB off spread l j i = false ↔ hiO off (l.getD j 0) ≤ hiO off (l.getD i 0) ∧ loO off (l.getD i 0) ≤ hiO off (l.getD j 0) + spread := by
  unfold winB inWin
  simp only [Bool.not_eq_false', Bool.and_eq_true, decide_eq_true_eq]
  exact Iff.rfl

theorem rest_mem {l : List Int} {q : Nat → Bool} {x : Int} : x ∈ restQ l q ↔ ∃ i, i < l.length ∧ q i = false ∧ l.getD i 0 = x := by
  unfold restQ
  simp only [List.mem_map, List.mem_filter, List.mem_range, Bool.not_eq_true']
  constructor
  · rintro ⟨i, ⟨h1, h2⟩, h3⟩
    exact ⟨i, h1, h2, h3⟩
  · rintro ⟨i, h1, h2, h3⟩
    exact ⟨i, ⟨h1, h2⟩, h3⟩

/-- Without what a window leaves out the others are close. -/
theorem win_close (off spread : Int) (l : List Int) (j : Nat) : closeB off spread (restQ l (winB off spread l j)) = true := by
  rw [close_iff]
  intro x hx y hy
  obtain ⟨i, hi, h1, rfl⟩ := rest_mem.1 hx
  obtain ⟨k, hk, h2, rfl⟩ := rest_mem.1 hy
  have a := win_iff.1 h1
  have b := win_iff.1 h2
  omega

theorem filter_le {p q : Nat → Bool} : ∀ (L : List Nat), (∀ i ∈ L, p i = true → q i = true) → (L.filter p).length ≤ (L.filter q).length
  | [], _ => Nat.le_refl _
  | x :: L, h => by
    have ih := filter_le L (fun i hi => h i (List.mem_cons_of_mem _ hi))
    cases hp : p x with
    | true =>
      rw [List.filter_cons, List.filter_cons, if_pos hp, if_pos (h x List.mem_cons_self hp)]
      simp only [List.length_cons]
      omega
    | false =>
      rw [List.filter_cons, if_neg (by rw [hp]; decide), List.filter_cons]
      split
      · simp only [List.length_cons]
        omega
      · exact ih

theorem filter_eq {p q : Nat → Bool} : ∀ L : List Nat, (∀ i ∈ L, p i = true → q i = true) → (L.filter p).length = (L.filter q).length → L.filter p = L.filter q
  | [], _, _ => rfl
  | x :: L, h, he => by
    have h' : ∀ i ∈ L, p i = true → q i = true := fun i hi => h i (List.mem_cons_of_mem _ hi)
    have hle : (L.filter p).length ≤ (L.filter q).length := filter_le L h'
    cases hp : p x with
    | true =>
      have hq := h x List.mem_cons_self hp
      rw [List.filter_cons, List.filter_cons, if_pos hp, if_pos hq] at *
      rw [filter_eq L h' (by simpa using he)]
    | false =>
      cases hq : q x with
      | true =>
        rw [List.filter_cons, List.filter_cons, if_neg (by rw [hp]; decide), if_pos hq] at he
        simp at he
        omega
      | false =>
        rw [List.filter_cons, List.filter_cons, if_neg (by rw [hp]; decide), if_neg (by rw [hq]; decide)] at *
        exact filter_eq L h' he

/-- A least one of some. -/
theorem least_at (p : Nat → Bool) (v : Nat → Int) : ∀ n : Nat, (∃ j, j < n ∧ p j = true) → ∃ j, j < n ∧ p j = true ∧ ∀ i, i < n → p i = true → v j ≤ v i
  | 0, h => by obtain ⟨j, hj, _⟩ := h; omega
  | n + 1, h => by
    by_cases h' : ∃ j, j < n ∧ p j = true
    · obtain ⟨j, h1, h2, h3⟩ := least_at p v n h'
      by_cases e : p n = true ∧ v n < v j
      · refine ⟨n, by omega, e.1, fun i hi hpi => ?_⟩
        rcases Nat.lt_or_ge i n with h4 | h4
        · have := h3 i h4 hpi
          omega
        · obtain rfl : i = n := by omega
          omega
      · refine ⟨j, by omega, h2, fun i hi hpi => ?_⟩
        rcases Nat.lt_or_ge i n with h4 | h4
        · exact h3 i h4 hpi
        · obtain rfl : i = n := by omega
          have : ¬ v i < v j := fun e' => e ⟨hpi, e'⟩
          omega
    · obtain ⟨j, hj, hpj⟩ := h
      obtain rfl : j = n := by
        rcases Nat.lt_or_ge j n with h4 | h4
        · exact absurd ⟨j, h4, hpj⟩ h'
        · omega
      refine ⟨j, hj, hpj, fun i hi hpi => ?_⟩
      rcases Nat.lt_or_ge i j with h4 | h4
      · exact absurd ⟨i, h4, hpi⟩ h'
      · obtain rfl : i = j := by omega
        exact Int.le_refl _

/-- A set that leaves the others close leaves out all that some window does. -/
theorem close_win {off spread : Int} (o0 : 0 ≤ off) (s0 : 0 ≤ spread) {l : List Int} (hl : ∀ x ∈ l, 0 ≤ x ∧ x ≤ 100000) (hn : 0 < l.length) {q : Nat → Bool} (h : closeB off spread (restQ l q) = true) : ∃ j, j < l.length ∧ ∀ i ∈ List.range l.length, winB off spread l j i = true → q i = true := by
  have hb : ∀ i, i < l.length → 0 ≤ l.getD i 0 ∧ l.getD i 0 ≤ 100000 := fun i hi => by
    obtain ⟨x, _, e, hx⟩ := getD_in hi
    rw [e]
    exact hl x hx
  by_cases hc : ∃ j, j < l.length ∧ (!q j) = true
  · obtain ⟨j, h1, h2, h3⟩ := least_at (fun i => !q i) (fun i => hiO off (l.getD i 0)) l.length hc
    refine ⟨j, h1, fun i hi hw => ?_⟩
    have hi' := List.mem_range.1 hi
    cases hq : q i with
    | true => rfl
    | false =>
      have a := h3 i hi' (by simp [hq])
      have b := close_iff.1 h (l.getD i 0) (rest_mem.2 ⟨i, hi', hq, rfl⟩) (l.getD j 0) (rest_mem.2 ⟨j, h1, by simpa using h2, rfl⟩)
      have c : winB off spread l j i = false := win_iff.2 ⟨a, by omega⟩
      rw [c] at hw
      cases hw
  · refine ⟨0, hn, fun i hi hw => ?_⟩
    have hi' := List.mem_range.1 hi
    cases hq : q i with
    | true => rfl
    | false => exact absurd ⟨i, hi', by simp [hq]⟩ hc

theorem odd_all (off spread : Int) (l : List Int) : ∀ k j : Nat, j < k → lessI (intsN (leftL off spread l j)) (intsN (oddTo off spread l k)) = false
  | 0, j, h => by omega
  | k + 1, j, h => by
    have self : ∀ a : List Int, lessI a a = false := fun a => by unfold lessI; rw [if_pos rfl, lexI_self]
    have key : (k = 0 ∨ (leftL off spread l k).length < (oddTo off spread l k).length ∨ ((leftL off spread l k).length = (oddTo off spread l k).length ∧ compL (intsN (leftL off spread l k)) (intsN (oddTo off spread l k)) < 0)) ↔ (k = 0 ∨ lessI (intsN (leftL off spread l k)) (intsN (oddTo off spread l k)) = true) := by
      unfold lessI
      rw [intsN_len, intsN_len]
      by_cases e : (leftL off spread l k).length = (oddTo off spread l k).length
      · rw [if_pos e]
        have := comp_lex (intsN (leftL off spread l k)) (intsN (oddTo off spread l k)) (by rw [intsN_len, intsN_len]; exact e)
        constructor
        · rintro (h1 | h1 | h1)
          · exact .inl h1
          · omega
          · exact .inr (this.1 h1.2)
        · rintro (h1 | h1)
          · exact .inl h1
          · exact .inr (.inr ⟨e, this.2 h1⟩)
      · rw [if_neg e]
        simp only [decide_eq_true_eq]
        constructor
        · rintro (h1 | h1 | h1)
          · exact .inl h1
          · exact .inr h1
          · omega
        · rintro (h1 | h1)
          · exact .inl h1
          · exact .inr (.inl h1)
    unfold oddTo
    by_cases c : (k = 0 ∨ (leftL off spread l k).length < (oddTo off spread l k).length ∨ ((leftL off spread l k).length = (oddTo off spread l k).length ∧ compL (intsN (leftL off spread l k)) (intsN (oddTo off spread l k)) < 0))
    · rw [if_pos c]
      rcases Nat.lt_or_ge j k with e | e
      · rcases key.1 c with h0 | h0
        · omega
        · cases hl : lessI (intsN (leftL off spread l j)) (intsN (leftL off spread l k)) with
          | false => rfl
          | true =>
            have := lessI_trans hl h0
            rw [odd_all off spread l k j e] at this
            cases this
      · obtain rfl : j = k := by omega
        exact self _
    · rw [if_neg c]
      rcases Nat.lt_or_ge j k with e | e
      · exact odd_all off spread l k j e
      · obtain rfl : j = k := by omega
        cases hl : lessI (intsN (leftL off spread l j)) (intsN (oddTo off spread l j)) with
        | false => rfl
        | true => exact absurd (key.2 (.inr hl)) c

theorem odd_is (off spread : Int) (l : List Int) : ∀ k : Nat, 0 < k → ∃ j, j < k ∧ oddTo off spread l k = leftL off spread l j
  | 0, h => by omega
  | k + 1, _ => by
    unfold oddTo
    split
    · exact ⟨k, by omega, rfl⟩
    · rename_i h
      obtain ⟨j, h1, h2⟩ := odd_is off spread l k (by omega)
      exact ⟨j, by omega, h2⟩

/-- No set that leaves the others close is smaller than Odd's. -/
theorem odd_least {off spread : Int} (o0 : 0 ≤ off) (s0 : 0 ≤ spread) {l : List Int} (hl : ∀ x ∈ l, 0 ≤ x ∧ x ≤ 100000) (hn : 0 < l.length) {q : Nat → Bool} (h : closeB off spread (restQ l q) = true) : lessI (intsN (outQ l.length q)) (intsN (oddTo off spread l l.length)) = false := by
  obtain ⟨j, hj, hs⟩ := close_win o0 s0 hl hn h
  have h1 := odd_all off spread l l.length j hj
  rw [left_out] at h1
  have hle := filter_le (p := winB off spread l j) (q := q) (List.range l.length) hs
  cases hc : lessI (intsN (outQ l.length q)) (intsN (oddTo off spread l l.length)) with
  | false => rfl
  | true =>
    by_cases e : (outQ l.length (winB off spread l j)).length = (outQ l.length q).length
    · have := filter_eq (List.range l.length) hs e
      unfold outQ at h1 hc
      rw [this, hc] at h1
      cases h1
    · have h2 : lessI (intsN (outQ l.length (winB off spread l j))) (intsN (outQ l.length q)) = true := by
        unfold lessI
        rw [intsN_len, intsN_len, if_neg e]
        simp only [decide_eq_true_eq]
        unfold outQ at e ⊢
        omega
      have := lessI_trans h2 hc
      rw [h1] at this
      cases this

end Go.Proofs.Ytjdeojpapdphoaa

namespace Go.Proofs.Ytjdeojpapdphoaa
set_option linter.unusedVariables false
set_option linter.unusedSimpArgs false
open Go.RowKit

theorem refIn_any (n lo hi : Int) (d : Bool) (hd : in1 lo hi n = d) (w : World) :
    Calls Try.prog 25 #[.int .i64 n, .int .i64 lo, .int .i64 hi] w fun e w' => e = .returned (.bool d) ∧ Gr w w' := by
  subst hd
  by_cases h : lo ≤ n
  · have E := Lib.hid (show in1 lo hi n = decide (n ≤ hi) by simp [in1, h])
    go_enter Try.func25, Try.ntmps25
    go_wp2
    go_ret
    exact ⟨ret_bool E.out.symm, Below.refl _ _⟩
  · have E := Lib.hid (show in1 lo hi n = false by simp [in1, h])
    have h' : decide (lo ≤ n) = false := by simpa using h
    go_enter Try.func25, Try.ntmps25
    go_wp2
    go_ret
    exact ⟨ret_bool E.out.symm, Below.refl _ _⟩

set_option maxRecDepth 100000 in
theorem refSpan_any (a b lo hi : Int) (d : Bool) (hd : okSpan lo hi a b = d) (w : World) :
    Calls Try.prog 72 #[.agg #[.int .i64 a, .int .i64 b], .int .i64 lo, .int .i64 hi] w fun e w' => e = .returned (.bool d) ∧ Gr w w' := by
  have gg := Gr.al w (.cells #[.int .i64 a, .int .i64 b] 45)
  have hb := Box.new w [.int .i64 a, .int .i64 b] 45 w.heap.size rfl
  obtain ⟨q0, q1⟩ := hb.c2
  cases c : in1 lo b a with
  | true =>
    have E := Lib.hid (show d = decide (b ≤ hi) by
      rw [← hd]
      simp [in1] at c
      by_cases h : b ≤ hi
      · simp [okSpan, inB, in1, h]
        omega
      · simp [okSpan, inB, in1, h])
    clear hd
    go_enter Try.func72, Try.ntmps72
    go_wp2_with (go_at_call 25; refine (refIn_any a lo b true c _).mono ?_; rintro e w1 ⟨rfl, g1⟩; replace hb := hb.keep g1; clear q0 q1; obtain ⟨q0, q1⟩ := hb.c2)
    go_ret
    exact ⟨ret_bool E.out.symm, gg.tr g1⟩
  | false =>
    have E := Lib.hid (show d = false by
      rw [← hd]
      cases h : okSpan lo hi a b with
      | false => rfl
      | true =>
        simp [okSpan, inB, in1] at h
        simp [in1] at c
        omega)
    clear hd
    go_enter Try.func72, Try.ntmps72
    go_wp2_with (go_at_call 25; refine (refIn_any a lo b false c _).mono ?_; rintro e w1 ⟨rfl, g1⟩; replace hb := hb.keep g1; clear q0 q1; obtain ⟨q0, q1⟩ := hb.c2)
    go_ret
    exact ⟨ret_bool E.out.symm, gg.tr g1⟩

theorem sq_bd {r N : Int} (h0 : 0 ≤ r) (h1 : r * r ≤ N) (h2 : N ≤ 200000000) : r ≤ 15000 := by
  rcases Int.lt_or_le 15000 r with h | h
  · have h3 : 15001 * 15001 ≤ r * r := Int.mul_le_mul (by omega) (by omega) (by omega) h0
    omega
  · exact h

set_option maxRecDepth 100000 in
set_option maxHeartbeats 2000000 in
theorem refStrength_any (edge cal ar ru : Int) (e0 : 0 ≤ edge) (e1 : edge ≤ 100000) (c0 : 1 ≤ cal) (c1 : cal ≤ 10000) (a0 : 1 ≤ ar) (a1 : ar ≤ 20000) (u0 : 1 ≤ ru) (u1 : ru ≤ 1000) (w : World) :
    Calls Try.prog 32 #[.int .i64 edge, .int .i64 cal, .int .i64 ar, .int .i64 ru] w fun e w' => e = .returned (.int .i64 (strongB ar ru edge cal)) ∧ Gr w w' := by
  have m0 : 1 ≤ cal * ar := by have := Int.mul_le_mul c0 a0 (by omega) (by omega); omega
  have m1 : cal * ar ≤ 10000 * 20000 := Int.mul_le_mul c1 a1 (by omega) (by omega)
  obtain ⟨N, hN⟩ : ∃ N, cal * ar = N := ⟨_, rfl⟩
  have E : strongB ar ru edge cal = edge * rootL N * ru / 100000 := by unfold strongB; rw [hN]
  have HE := Lib.hid E
  have wN : IntKind.i64.wrap (cal * ar) = N := by rw [IntWalk.i64_in _ (by omega)]; exact hN
  rw [hN] at m0 m1
  clear hN E
  go_enter Try.func32, Try.ntmps32
  go_wp2
  go_loopw [9] (fun i wr => Hid (∃ r : Nat, i = .int .i64 r ∧ (r : Int) * r ≤ N ∧ Gr w wr)) (fun i _ => 20000 - (intOf i).toNat)
  case atStart => exact Lib.hid ⟨0, rfl, by omega, Below.refl _ _⟩
  case round =>
    obtain ⟨r, rfl, hr, gW⟩ := hrel.out
    clear hrel
    have hb := sq_bd (by omega) hr (by omega)
    obtain ⟨P, hP⟩ : ∃ P, ((r : Int) + 1) * ((r : Int) + 1) = P := ⟨_, rfl⟩
    have p0 : 0 ≤ P := by rw [← hP]; exact Int.mul_nonneg (by omega) (by omega)
    have p1 : P ≤ 15001 * 15001 := by rw [← hP]; exact Int.mul_le_mul (by omega) (by omega) (by omega) (by omega)
    have w0 : IntKind.i64.wrap ((r : Int) + 1) = (r : Int) + 1 := IntWalk.i64_in _ (by omega)
    have w1 : IntKind.i64.wrap (((r : Int) + 1) * ((r : Int) + 1)) = P := by rw [hP]; exact IntWalk.i64_in _ (by omega)
    by_cases hlt : P ≤ N
    · have HP := Lib.hid hP
      clear hP
      go_wp2
      go_roundw
      case rel => exact Lib.hid ⟨r + 1, by go_num, by have := HP.out; push_cast; omega, gW⟩
      case measure => simp [intOf]; omega
    · have hroot : rootL N = (r : Int) := rootL_is (by omega) (by omega) hr (by rw [hP]; omega)
      obtain ⟨A1, hA1⟩ : ∃ A1, edge * (r : Int) = A1 := ⟨_, rfl⟩
      have q0 : 0 ≤ A1 := by rw [← hA1]; exact Int.mul_nonneg e0 (by omega)
      have q1 : A1 ≤ 100000 * 15000 := by rw [← hA1]; exact Int.mul_le_mul e1 hb (by omega) (by omega)
      obtain ⟨A2, hA2⟩ : ∃ A2, A1 * ru = A2 := ⟨_, rfl⟩
      have q2 : 0 ≤ A2 := by rw [← hA2]; exact Int.mul_nonneg q0 (by omega)
      have q3 : A2 ≤ 100000 * 15000 * 1000 := by rw [← hA2]; exact Int.mul_le_mul q1 u1 (by omega) (by omega)
      have w2 : IntKind.i64.wrap (edge * (r : Int)) = A1 := by rw [hA1]; exact IntWalk.i64_in _ (by omega)
      have w3 : IntKind.i64.wrap (A1 * ru) = A2 := by rw [hA2]; exact IntWalk.i64_in _ (by omega)
      have z0 : A2.tdiv 100000 = A2 / 100000 := Int.tdiv_eq_ediv_of_nonneg q2
      have w4 : IntKind.i64.wrap (A2 / 100000) = A2 / 100000 := IntWalk.i64_in _ (by omega)
      have HE2 := Lib.hid (show strongB ar ru edge cal = A2 / 100000 by rw [HE.out, hroot, hA1, hA2])
      clear hA1 hA2 hroot hP
      go_wp2
      go_ret
      exact ⟨by rw [HE2.out]; rfl, gW⟩

set_option maxRecDepth 100000 in
set_option maxHeartbeats 2000000 in
theorem refBox_any (el eh cl ch ar ru : Int) (d : Bool) (hd : boxOk el eh cl ch ar ru = d) (w : World) :
    Calls Try.prog 30 #[.agg #[.int .i64 el, .int .i64 eh, .int .i64 cl, .int .i64 ch, .int .i64 ar, .int .i64 ru]] w fun e w' => e = .returned (.bool d) ∧ Gr w w' := by
  have gg := Gr.al w (.cells #[.int .i64 el, .int .i64 eh, .int .i64 cl, .int .i64 ch, .int .i64 ar, .int .i64 ru] 47)
  have hb := Box.new w [.int .i64 el, .int .i64 eh, .int .i64 cl, .int .i64 ch, .int .i64 ar, .int .i64 ru] 47 w.heap.size rfl
  obtain ⟨q0, q1, q2, q3, q4, q5⟩ := hb.c6'
  have HD : d = (okSpan 0 100000 el eh && okSpan 1 10000 cl ch && in1 1 20000 ar && in1 1 1000 ru) := by
    rw [← hd]
    simp [boxOk, inB]
  clear hd
  have tok0 : True := trivial
  have tok1 : True := trivial
  cases c0 : okSpan 0 100000 el eh <;> cases c1 : okSpan 1 10000 cl ch <;> cases c2 : in1 1 20000 ar <;> cases c3 : in1 1 1000 ru
  all_goals
    rw [c0, c1, c2, c3] at HD
    have HD2 := Lib.hid HD
    clear HD
    go_enter Try.func30, Try.ntmps30
    go_wp2_with (first
      | (have _t := tok0; clear tok0 _t; go_at_call 72; refine (refSpan_any el eh 0 100000 _ c0 _).mono ?_; rintro e w1 ⟨rfl, hx⟩; replace gg := gg.tr hx; replace hb := hb.keep hx; clear hx q0 q1 q2 q3 q4 q5; obtain ⟨q0, q1, q2, q3, q4, q5⟩ := hb.c6')
      | (go_at_call 72; refine (refSpan_any cl ch 1 10000 _ c1 _).mono ?_; rintro e w1 ⟨rfl, hx⟩; replace gg := gg.tr hx; replace hb := hb.keep hx; clear hx q0 q1 q2 q3 q4 q5; obtain ⟨q0, q1, q2, q3, q4, q5⟩ := hb.c6')
      | (have _t := tok1; clear tok1 _t; go_at_call 25; refine (refIn_any ar 1 20000 _ c2 _).mono ?_; rintro e w1 ⟨rfl, hx⟩; replace gg := gg.tr hx; replace hb := hb.keep hx; clear hx q0 q1 q2 q3 q4 q5; obtain ⟨q0, q1, q2, q3, q4, q5⟩ := hb.c6')
      | (go_at_call 25; refine (refIn_any ru 1 1000 _ c3 _).mono ?_; rintro e w1 ⟨rfl, hx⟩; replace gg := gg.tr hx; replace hb := hb.keep hx; clear hx q0 q1 q2 q3 q4 q5; obtain ⟨q0, q1, q2, q3, q4, q5⟩ := hb.c6'))
    go_ret
    exact ⟨ret_bool HD2.out.symm, gg⟩

end Go.Proofs.Ytjdeojpapdphoaa

namespace Go.Proofs.Ytjdeojpapdphoaa
set_option linter.unusedVariables false
set_option linter.unusedSimpArgs false
open Go.RowKit

theorem sumS_ge (hi : Bool) (m : Int) : ∀ l : List (Int × Int), (∀ x ∈ l, m ≤ if hi then x.2 else x.1) → (l.length : Int) * m ≤ sumS hi l
  | [], _ => by simp [sumS]
  | y :: l, h => by
    have h1 := sumS_ge hi m l (fun x hx => h x (List.mem_cons_of_mem _ hx))
    have h2 := h y List.mem_cons_self
    simp only [sumS, List.length_cons]
    rw [show ((l.length + 1 : Nat) : Int) = (l.length : Int) + 1 by omega, Int.add_mul, Int.one_mul]
    omega

theorem sumS_le (hi : Bool) (m : Int) : ∀ l : List (Int × Int), (∀ x ∈ l, (if hi then x.2 else x.1) ≤ m) → sumS hi l ≤ (l.length : Int) * m
  | [], _ => by simp [sumS]
  | y :: l, h => by
    have h1 := sumS_le hi m l (fun x hx => h x (List.mem_cons_of_mem _ hx))
    have h2 := h y List.mem_cons_self
    simp only [sumS, List.length_cons]
    rw [show ((l.length + 1 : Nat) : Int) = (l.length : Int) + 1 by omega, Int.add_mul, Int.one_mul]
    omega

theorem badS_len (hi : Bool) (low : Int) : ∀ l : List (Int × Int), badS hi low l ≤ (l.length : Int)
  | [] => by simp [badS]
  | y :: l => by
    have := badS_len hi low l
    simp only [badS, List.length_cons]
    split <;> split <;> omega

theorem truthsL_len (te : Nat) (off : Int) (l : List Int) : (truthsL te off l).length = te := by simp [truthsL]

/-- All readings so great that the least truths are at least the mean: the lot passes. -/
theorem state_pass (n : Nat) (m off : Int) (l : List Int) (h : ∀ k, k < n → m ≤ (truthAt off l k).1) : stateL (n : Int) m 0 (n : Int) (truthsL n off l) = 1 := by
  have hall : ∀ x ∈ truthsL n off l, m ≤ if false = true then x.2 else x.1 := fun x hx => by
    obtain ⟨k, hk, rfl⟩ := List.mem_map.1 hx
    simpa using h k (List.mem_range.1 hk)
  have h1 := sumS_ge false m _ hall
  have h2 := badS_len false 0 (truthsL n off l)
  rw [truthsL_len] at h1 h2
  unfold stateL
  rw [if_pos]
  unfold passB
  rw [decide_eq_true h2, decide_eq_true h1]
  rfl

/-- All readings so small that the greatest truths are below the mean: it fails. -/
theorem state_fail (n : Nat) (hn : 1 ≤ n) (m off : Int) (l : List Int) (h : ∀ k, k < n → (truthAt off l k).2 ≤ m - 1 ∧ (truthAt off l k).1 ≤ m - 1) : stateL (n : Int) m 0 (n : Int) (truthsL n off l) = 2 := by
  have aux : ∀ hi : Bool, passB hi (n : Int) m 0 (n : Int) (truthsL n off l) = false := fun hi => by
    have hall : ∀ x ∈ truthsL n off l, (if hi then x.2 else x.1) ≤ m - 1 := fun x hx => by
      obtain ⟨k, hk, rfl⟩ := List.mem_map.1 hx
      have := h k (List.mem_range.1 hk)
      cases hi
      · simpa using this.2
      · simpa using this.1
    have h1 := sumS_le hi (m - 1) _ hall
    rw [truthsL_len, Int.mul_sub, Int.mul_one] at h1
    have h3 : ¬ (n : Int) * m ≤ sumS hi (truthsL n off l) := by omega
    unfold passB
    rw [decide_eq_false h3, Bool.and_false]
  unfold stateL
  rw [aux false, aux true]
  simp

/-- A lot that passes with n tests needs at most n. -/
theorem need_in (n : Nat) (m low ba off : Int) (st rd : Int) (h : stAt n m low ba off [] rd n = st) : 0 ≤ needL n m low ba off [] st rd ∧ needL n m low ba off [] st rd ≤ n := by
  unfold needL
  cases hf : (List.range (n + 1 - ([] : List Int).length)).find? (fun k => decide (stAt n m low ba off [] rd k = st)) with
  | none =>
    rw [List.find?_range_eq_none] at hf
    have := hf n (by simp)
    simp [h] at this
  | some k =>
    have := List.mem_range.1 (List.mem_of_find?_eq_some hf)
    simp at this ⊢
    omega

/-- What fails needs none. -/
theorem need_zero (n : Nat) (m low ba off : Int) (l : List Int) (hl : l.length ≤ n) (st rd : Int) (h : stateL (n : Int) m low ba (truthsL n off l) = st) : needL n m low ba off l st rd = 0 := by
  have hf : (List.range (n + 1 - l.length)).find? (fun k => decide (stAt n m low ba off l rd k = st)) = some 0 := by
    rw [List.find?_range_eq_some]
    exact ⟨by simp [stAt, h], List.mem_range.2 (by omega), fun j hj => by omega⟩
  unfold needL
  rw [hf]
  rfl

end Go.Proofs.Ytjdeojpapdphoaa

namespace Go.Proofs.Ytjdeojpapdphoaa
set_option linter.unusedVariables false
set_option linter.unusedSimpArgs false

/-- Truths that lie within others. -/
def Within : List (Int × Int) → List (Int × Int) → Prop
  | [], [] => True
  | x :: l, y :: m => (x.1 ≤ y.1 ∧ y.2 ≤ x.2) ∧ Within l m
  | _, _ => False

theorem within_sum : ∀ {l m : List (Int × Int)}, Within l m → sumS false l ≤ sumS false m ∧ sumS true m ≤ sumS true l
  | [], [], _ => by simp [sumS]
  | x :: l, y :: m, h => by
    obtain ⟨⟨a, b⟩, c⟩ := h
    obtain ⟨p, q⟩ := within_sum c
    simp only [sumS, Bool.false_eq_true, if_false, if_true]
    omega
  | [], _ :: _, h => h.elim
  | _ :: _, [], h => h.elim

theorem within_bad {low : Int} : ∀ {l m : List (Int × Int)}, Within l m → badS false low m ≤ badS false low l ∧ badS true low l ≤ badS true low m
  | [], [], _ => by simp [badS]
  | x :: l, y :: m, h => by
    obtain ⟨⟨a, b⟩, c⟩ := h
    obtain ⟨p, q⟩ := within_bad (low := low) c
    simp only [badS, Bool.false_eq_true, if_false, if_true]
    have h1 : (if y.1 < low then (1 : Int) else 0) ≤ if x.1 < low then 1 else 0 := by split <;> split <;> omega
    have h2 : (if x.2 < low then (1 : Int) else 0) ≤ if y.2 < low then 1 else 0 := by split <;> split <;> omega
    omega
  | [], _ :: _, h => h.elim
  | _ :: _, [], h => h.elim

theorem passB_iff {hi : Bool} {te me low ba : Int} {l : List (Int × Int)} : passB hi te me low ba l = true ↔ badS hi low l ≤ ba ∧ te * me ≤ sumS hi l := by
  unfold passB
  rw [Bool.and_eq_true, decide_eq_true_eq, decide_eq_true_eq]

theorem within_lo {te me low ba : Int} {l m : List (Int × Int)} (h : Within l m) (hp : passB false te me low ba l = true) : passB false te me low ba m = true := by
  rw [passB_iff] at hp ⊢
  have h1 := within_sum h
  have h2 := within_bad (low := low) h
  omega

theorem within_hi {te me low ba : Int} {l m : List (Int × Int)} (h : Within l m) (hp : passB true te me low ba m = true) : passB true te me low ba l = true := by
  rw [passB_iff] at hp ⊢
  have h1 := within_sum h
  have h2 := within_bad (low := low) h
  omega

theorem within_map {f g : Nat → Int × Int} : ∀ L : List Nat, (∀ k ∈ L, (f k).1 ≤ (g k).1 ∧ (g k).2 ≤ (f k).2) → Within (L.map f) (L.map g)
  | [], _ => trivial
  | x :: L, h => ⟨h x List.mem_cons_self, within_map L (fun k hk => h k (List.mem_cons_of_mem _ hk))⟩

/-- Truths that are known. -/
def diag (l : List Int) : List (Int × Int) := l.map fun t => (t, t)

theorem diag_sum (hi : Bool) : ∀ l, sumS hi (diag l) = sumS false (diag l)
  | [] => rfl
  | x :: l => by
    have := diag_sum hi l
    simp only [diag, List.map_cons] at this ⊢
    cases hi <;> simp [sumS] <;> simpa using this

theorem diag_bad (hi : Bool) (low : Int) : ∀ l, badS hi low (diag l) = badS false low (diag l)
  | [] => rfl
  | x :: l => by
    have := diag_bad hi low l
    simp only [diag, List.map_cons] at this ⊢
    cases hi <;> simp [badS] <;> simpa using this

theorem diag_pass (hi : Bool) (te me low ba : Int) (l : List Int) : passB hi te me low ba (diag l) = passB false te me low ba (diag l) := by
  unfold passB
  rw [diag_sum hi, diag_bad hi]

theorem state_one {te me low ba : Int} {X : List (Int × Int)} : stateL te me low ba X = 1 ↔ passB false te me low ba X = true := by
  unfold stateL
  by_cases h : passB false te me low ba X = true
  · simp [h]
  · rw [if_neg h]
    constructor
    · intro h2
      split at h2 <;> omega
    · intro h2
      exact absurd h2 h

theorem state_two {te me low ba : Int} {X : List (Int × Int)} : stateL te me low ba X = 2 ↔ passB false te me low ba X = false ∧ passB true te me low ba X = false := by
  unfold stateL
  cases h : passB false te me low ba X <;> cases k : passB true te me low ba X <;> simp

theorem state_bd (te me low ba : Int) (X : List (Int × Int)) : stateL te me low ba X = 1 ∨ stateL te me low ba X = 2 ∨ stateL te me low ba X = 3 := by
  unfold stateL
  split
  · exact .inl rfl
  · split
    · exact .inr (.inr rfl)
    · exact .inr (.inl rfl)

/-- What is sure is so in the end. -/
theorem state_in {te me low ba : Int} {X : List (Int × Int)} {T : List Int} (h : Within X (diag T)) (hx : stateL te me low ba X ≠ 3) : (stateL te me low ba X = 1 ↔ passB false te me low ba (diag T) = true) := by
  constructor
  · intro h1
    exact within_lo h (state_one.1 h1)
  · intro hp
    rcases state_bd te me low ba X with h1 | h2 | h3
    · exact h1
    · have h4 := (state_two.1 h2).2
      rw [← diag_pass true] at hp
      rw [within_hi h hp] at h4
      cases h4
    · exact absurd h3 hx

/-- It stays so. -/
theorem state_up {te me low ba : Int} {X Y : List (Int × Int)} {T : List Int} (h : Within X Y) (k : Within Y (diag T)) (hx : stateL te me low ba X ≠ 3) : stateL te me low ba Y = stateL te me low ba X := by
  rcases state_bd te me low ba X with h1 | h2 | h3
  · rw [h1, state_one]
    exact within_lo h (state_one.1 h1)
  · rw [h2, state_two]
    have h4 := (state_two.1 h2).2
    have h5 : passB true te me low ba Y = false := by
      cases h6 : passB true te me low ba Y with
      | false => rfl
      | true =>
        rw [within_hi h h6] at h4
        cases h4
    refine ⟨?_, h5⟩
    cases h6 : passB false te me low ba Y with
    | false => rfl
    | true =>
      have h7 := within_lo k h6
      rw [← diag_pass true] at h7
      rw [within_hi k h7] at h5
      cases h5
  · exact absurd h3 hx

theorem state_diag (te me low ba : Int) (T : List Int) : stateL te me low ba (diag T) ≠ 3 := by
  unfold stateL
  rw [diag_pass true]
  split
  · decide
  · decide

/-- A test of a lot: what is true, and what the gauge is wrong by. -/
structure V2 where
  a : Int
  b : Int

def encV2 (v : V2) : List Value := [.int .u8 v.a, .int .u8 v.b]

abbrev Row2 := RowOf 2 encV2

def B2 (v : V2) : Prop := (0 ≤ v.a ∧ v.a ≤ 255) ∧ (0 ≤ v.b ∧ v.b ≤ 255)

theorem Row2.get {w : World} {a : Option Addr} {l : List V2} (h : Row2 w a l) {j : Nat} {x : V2} (hx : l[j]? = some x) :
    ∃ b o, a = some ⟨b, o, none⟩ ∧ b < w.heap.size ∧ w.cell? ⟨b, o + j * 2, none⟩ = some (.int .u8 x.a) ∧ w.cell? ⟨b, o + j * 2 + 1, none⟩ = some (.int .u8 x.b) := by
  obtain ⟨b, o, ha, hb, hc⟩ := h.2 j x hx
  exact ⟨b, o, ha, hb, hc 0 _ rfl, hc 1 _ rfl⟩

def lotT (T : List V2) (i : Nat) : V2 := match T[i]? with
  | some v => v
  | none => ⟨100, 0⟩

theorem lotT_bd {T : List V2} (h : ∀ v ∈ T, B2 v) (i : Nat) : B2 (lotT T i) := by
  unfold lotT
  split
  · rename_i v hv
    exact h v (List.mem_of_getElem? hv)
  · exact ⟨⟨by decide, by decide⟩, ⟨by decide, by decide⟩⟩

def lotA (T : List V2) (i : Nat) : Int := (lotT T i).a

def lotR (T : List V2) (off : Int) (i : Nat) : Int := max 0 ((lotT T i).a + (lotT T i).b % (2 * off + 1) - off)

def lotTru (T : List V2) (n : Nat) : List Int := (List.range n).map (lotA T)

def lotRea (T : List V2) (off : Int) (n : Nat) : List Int := (List.range n).map (lotR T off)

theorem lotTru_len (T : List V2) (n : Nat) : (lotTru T n).length = n := by simp [lotTru]

theorem lotRea_len (T : List V2) (off : Int) (n : Nat) : (lotRea T off n).length = n := by simp [lotRea]

theorem lotTru_succ (T : List V2) (n : Nat) : lotTru T (n + 1) = lotTru T n ++ [lotA T n] := by simp [lotTru, List.range_succ]

theorem lotRea_succ (T : List V2) (off : Int) (n : Nat) : lotRea T off (n + 1) = lotRea T off n ++ [lotR T off n] := by simp [lotRea, List.range_succ]

theorem lotA_bd {T : List V2} (h : ∀ v ∈ T, B2 v) (i : Nat) : 0 ≤ lotA T i ∧ lotA T i ≤ 255 := (lotT_bd h i).1

theorem lotR_bd {T : List V2} (h : ∀ v ∈ T, B2 v) {off : Int} (o0 : 0 ≤ off) (o1 : off ≤ 39) (i : Nat) : (0 ≤ lotR T off i ∧ lotR T off i ≤ 294) ∧ lotR T off i - off ≤ lotA T i ∧ lotA T i ≤ lotR T off i + off := by
  obtain ⟨⟨a0, a1⟩, b0, b1⟩ := lotT_bd h i
  have m0 := Int.emod_nonneg (lotT T i).b (b := 2 * off + 1) (by omega)
  have m1 := Int.emod_lt_of_pos (lotT T i).b (b := 2 * off + 1) (by omega)
  unfold lotR lotA
  omega

theorem lotRea_take {T : List V2} {off : Int} {n k i : Nat} (hi : i < n) : ((lotRea T off n).take k)[i]? = if i < k then some (lotR T off i) else none := by
  rw [List.getElem?_take]
  simp [lotRea, hi]

theorem lotRea_mem {T : List V2} (h : ∀ v ∈ T, B2 v) {off : Int} (o0 : 0 ≤ off) (o1 : off ≤ 39) {n : Nat} {r : Int} (hr : r ∈ lotRea T off n) : 0 ≤ r ∧ r ≤ 294 := by
  simp only [lotRea, List.mem_map, List.mem_range] at hr
  obtain ⟨i, _, rfl⟩ := hr
  exact (lotR_bd h o0 o1 i).1

theorem lotTru_mem {T : List V2} (h : ∀ v ∈ T, B2 v) {n : Nat} {r : Int} (hr : r ∈ lotTru T n) : 0 ≤ r ∧ r ≤ 255 := by
  simp only [lotTru, List.mem_map, List.mem_range] at hr
  obtain ⟨i, _, rfl⟩ := hr
  exact lotA_bd h i

theorem diag_tru (T : List V2) (n : Nat) : diag (lotTru T n) = (List.range n).map (fun i => (lotA T i, lotA T i)) := by
  simp [diag, lotTru, Function.comp_def]

theorem tru_within {T : List V2} (h : ∀ v ∈ T, B2 v) {off : Int} (o0 : 0 ≤ off) (o1 : off ≤ 39) (n k : Nat) : Within (truthsL n off ((lotRea T off n).take k)) (diag (lotTru T n)) := by
  rw [diag_tru]
  refine within_map _ (fun i hi => ?_)
  rw [List.mem_range] at hi
  have h1 := lotR_bd h o0 o1 i
  have h2 := lotA_bd h i
  unfold truthAt
  rw [lotRea_take hi]
  by_cases hk : i < k
  · rw [if_pos hk]
    dsimp only
    omega
  · rw [if_neg hk]
    dsimp only
    omega

theorem take_within (n : Nat) (off : Int) (L : List Int) (k : Nat) : Within (truthsL n off (L.take k)) (truthsL n off (L.take (k + 1))) := by
  refine within_map _ (fun i hi => ?_)
  unfold truthAt
  rw [List.getElem?_take, List.getElem?_take]
  by_cases hk : i < k
  · rw [if_pos hk, if_pos (by omega)]
    exact ⟨Int.le_refl _, Int.le_refl _⟩
  · rw [if_neg hk]
    dsimp only
    split <;> dsimp only <;> omega

theorem exact_diag {T : List V2} (h : ∀ v ∈ T, B2 v) (n : Nat) : truthsL n 0 (lotTru T n) = diag (lotTru T n) := by
  rw [diag_tru]
  unfold truthsL
  refine List.map_congr_left (fun i hi => ?_)
  rw [List.mem_range] at hi
  have h2 := lotA_bd h i
  unfold truthAt
  rw [show (lotTru T n)[i]? = some (lotA T i) by simp [lotTru, hi]]
  dsimp only
  rw [Int.max_eq_right (by omega), Int.min_eq_right (by omega)]
  simp

theorem lot_rule {n : Nat} {me lo ba off : Int} {l : List Int} (n1 : 1 ≤ n) (n2 : n ≤ 20) (m0 : 0 ≤ me) (m1 : me ≤ 100000) (l0 : 0 ≤ lo) (l1 : lo ≤ 100000) (b0 : 0 ≤ ba) (b1 : ba ≤ (n : Int)) (o0 : 0 ≤ off) (o1 : off ≤ 1000) (hl : l.length ≤ n) (hB : ∀ r ∈ l, 0 ≤ r ∧ r ≤ 100000) : ruleL (n : Int) me lo ba off l = 0 := by
  have h1 : ruleOk (n : Int) me lo ba = true := by
    simp [ruleOk, inB, in1]
    omega
  have h2 : inB 0 1000 [off] = true := by
    simp [inB, in1]
    omega
  have h3 : ¬ (n : Int) < (l.length : Int) := by omega
  have h4 : inB 0 100000 l = true := by
    simp only [inB, List.all_eq_true]
    intro r hr
    have := hB r hr
    simp [in1]
    omega
  unfold ruleL
  rw [if_neg (by rw [h1]; decide), if_neg (by rw [h2]; decide), if_neg h3, if_neg (by rw [h4]; decide)]

end Go.Proofs.Ytjdeojpapdphoaa

namespace Go.Proofs.Ytjdeojpapdphoaa
set_option linter.unusedVariables false
set_option linter.unusedSimpArgs false
open Go.RowKit

theorem owns_zero {w : World} {base : Nat} {e : TypeId} {size : Nat} {v : Value} {n : Nat} {xs : List Value} (h : w.ownsRow base e size v n xs) : w.ownsRow 0 e size v n xs := by
  obtain ⟨h1, h2⟩ := h
  refine ⟨h1, ?_⟩
  rcases h2 with h2 | ⟨g, cap, cur, hv, _, h3⟩
  · exact .inl h2
  · exact .inr ⟨g, cap, cur, hv, Nat.zero_le _, h3⟩

/-- Two rows that do not lie in one block. -/
def Apart (v u : Value) : Prop := ∀ b, v.ownBlock = some b → u.ownBlock ≠ some b

theorem Apart.symm {v u : Value} (h : Apart v u) : Apart u v := fun b hb hv => h b hv hb

theorem wpList_append_sep {P : Program} (w : World) {ops : Array Oper} {rest : List Oper} {o : Oper} {a : Act} {Q : Exit → Act → World → Prop} (hgd : o.guard = none) (s x : Operand) (t : TypeId)
    (ho : o.op = .call { callee := .builtin .append, args := #[s, x], argTypes := #[t, t] })
    (base : Nat) (e : TypeId) (i : TypeInfo) (z : Value) (size bytes : Nat) (ht : P.underlying t = some (.slice e)) (hi : P.info? e = some i) (hz : i.zero = some z)
    (hsize : i.size = size) (hby : i.bytes = bytes) (hzs : z.cells.size = size) (hsz : 0 < size)
    (v : Value) (n : Nat) (xs : List Value) (hs : a.eval s = v) (hown : w.ownsRow base e size v n xs)
    (ad : Addr) (m c : Nat) (news : List Value) (hx : a.eval x = .slice (some ad) m c) (hl : news.length = m * size) (hnews : ∀ j u, news[j]? = some u → w.cell? (ad.add j) = some u) (h1 : ∀ u ∈ news, u.oneCell' = true)
    (h63 : n + m ≤ maxLen) (hbytes : (n + m) * bytes ≤ 140737488355328) (hbase : base ≤ w.heap.size)
    (u : Value) (k : Nat) (ys : List Value) (hu : w.ownsRow base e size u k ys) (hap : Apart v u)
    (h : ∀ v' w', w'.ownsRow base e size v' (n + m) (xs ++ news) → w.grownBy w' v.ownBlock → w'.ownsRow base e size u k ys → Apart v' u → wpList P ops Q rest (a.put o.dst v') w') : wpList P ops Q (o :: rest) a w := by
  refine wpList_plain hgd fun _ hK => ?_
  obtain ⟨v', w', hr, h2, h3, h4⟩ := run_append_own (P := P) w base t o.type e i z size bytes ht hi hz hsize hby hzs hsz v n xs hown ad m c news hl hnews h1 h63 hbytes hbase
  obtain ⟨v'', w'', hr', _, _, h5⟩ := run_append_new (P := P) w t o.type e i z size bytes ht hi hz hsize hby hzs hsz v n xs (owns_zero hown) ad m c news hl hnews h1 h63 hbytes
  rw [hr] at hr'
  injection hr' with e1 e2
  subst e1
  subst e2
  have hku : w'.ownsRow base e size u k ys := hu.kept h3 (by
    cases hub : u.ownBlock with
    | none => exact .inl rfl
    | some b => exact .inr (fun he => hap b he.symm hub))
  have hap' : Apart v' u := fun b hb hub => by
    rcases (h5 b hb).2 with h6 | h6
    · exact hap b h6 hub
    · have := (hu.lt b hub).2
      omega
  unfold Oper.wp execOp
  simp only [ho, resolve, invoke, builtin, Sem.run_bind, Sem.run_pure, Result.andThen_ok, List.map_toArray, List.map_cons, List.map_nil, hs, hx, hr]
  exact hK _ _ (h v' w' h2 h3 hku hap')

theorem Apart.lit {g k : Nat} {n m c d : Nat} (h : g ≠ k) : Apart (.slice (some ⟨g, 0, none⟩) n c) (.slice (some ⟨k, 0, none⟩) m d) := by
  intro b hb hc
  simp only [Value.ownBlock, Option.some.injEq] at hb hc
  omega

end Go.Proofs.Ytjdeojpapdphoaa

namespace Go.Proofs.Ytjdeojpapdphoaa
set_option linter.unusedVariables false
set_option linter.unusedSimpArgs false
open Go.RowKit

theorem owns_row_cap {α : Type} {enc : α → List Value} {sz : Nat} {w : World} {base : Nat} {e : TypeId} {v : Value} {l : List α} (he : ∀ x, (enc x).length = sz) (hl : l.length ≤ 9223372036854775807) (h : w.ownsRow base e sz v l.length (l.flatMap enc)) :
    ∃ a cap, v = .slice a l.length cap ∧ RowOf sz enc w a l ∧ (a = none → cap = 0) ∧ l.length ≤ cap := by
  obtain ⟨a, cap, hv, hr⟩ := owns_row he hl h
  refine ⟨a, cap, hv, hr, ?_⟩
  rcases h.2 with ⟨hv2, hn⟩ | ⟨b, cap2, cur, hv2, _, _, hc, _⟩
  · rw [hv2] at hv
    injection hv with e1 e2 e3
    exact ⟨fun _ => e3.symm, by omega⟩
  · rw [hv2] at hv
    injection hv with e1 e2 e3
    subst e1
    subst e3
    exact ⟨fun h => (by cases h), hc⟩

set_option maxHeartbeats 400000 in
theorem lints_any (l : List Int) (hl : l.length ≤ 1000) (b off cap : Nat) (w : World) (hr : IRow w (some ⟨b, off, none⟩) l) :
    Calls Try.prog 17 #[.slice (some ⟨b, off, none⟩) l.length cap] w fun e w' => ∃ a' cap', e = .returned (.slice a' l.length cap') ∧ IRow w' a' l ∧ (a' = none → cap' = 0) ∧ l.length ≤ cap' ∧ Gr w w' := by
  obtain ⟨i0, hi, hz0, hz1, hz2⟩ := info_parts infoInt
  have hr1 := hr.grow (Gr.al w (.cells #[] 3))
  have h1 : 0 + l.length ≤ maxLen := by unfold maxLen; omega
  have h2 : (0 + l.length) * 8 ≤ 140737488355328 := by omega
  have hfl := flat_len (enc := encI) (sz := 1) (fun _ => rfl) l
  have hnews := row_news (enc := encI) (sz := 1) (fun _ => rfl) hr1
  have Hfl := Lib.hid hfl
  have Hnews := Lib.hid hnews
  clear hfl hnews
  go_enter Try.func17, Try.ntmps17
  go_wp2_with (at_builtin; refine wpList_append_own _ rfl _ _ 24 rfl w.heap.size 3 i0 (.int .i64 0) 1 8 Try.underlying24 hi hz0 hz1 hz2 rfl (by decide) _ _ _ rfl (owns_empty w _ _) ⟨b, off, none⟩ l.length cap (l.flatMap encI) rfl Hfl.out Hnews.out (one_flat (fun x u hu => by simp [encI] at hu; subst hu; rfl) l) h1 h2 (by simp) ?_; intro v' w1 hown hgrow _)
  obtain ⟨a', cap', hv, hr2, hn2, hc2⟩ := owns_row_cap (enc := encI) (l := l) (fun _ => rfl) (by omega) (by simpa using hown)
  subst hv
  have Hr2 := Lib.hid hr2
  have Hn2 := Lib.hid hn2
  have Hc2 := Lib.hid hc2
  clear hr2 hn2 hown hc2
  go_wp2
  go_ret
  exact ⟨a', ⟨cap', rfl, Hr2.out, Hn2.out, Hc2.out, (Gr.al w _).grown' (owns_empty w _ 1) (Nat.le_refl _) hgrow⟩⟩

theorem diag_app (l : List Int) (x : Int) : diag (l ++ [x]) = diag l ++ [(x, x)] := by simp [diag]

theorem diag_bd {l : List Int} (hB : ∀ x ∈ l, 0 ≤ x ∧ x ≤ 100000) : ∀ x ∈ diag l, TrB x := by
  intro x hx
  simp only [diag, List.mem_map] at hx
  obtain ⟨t, ht, rfl⟩ := hx
  have := hB t ht
  exact ⟨this.1, this.2, this.1, this.2⟩

set_option maxRecDepth 100000 in
set_option maxHeartbeats 1000000 in
theorem lpasses_any (te me lo ba : Int) (l : List Int) (hl : l.length ≤ 1000) (hB : ∀ x ∈ l, 0 ≤ x ∧ x ≤ 100000) (t0 : 0 ≤ te) (t1 : te ≤ 1000) (m0 : 0 ≤ me) (m1 : me ≤ 100000) (a : Option Addr) (cap : Nat) (w : World) (hr : IRow w a l) :
    Calls Try.prog 50 #[.agg #[.int .i64 te, .int .i64 me, .int .i64 lo, .int .i64 ba], .slice a l.length cap] w fun e w' => e = .returned (.bool (passB false te me lo ba (diag l))) ∧ Gr w w' := by
  have gg := Gr.al w (.cells #[.int .i64 te, .int .i64 me, .int .i64 lo, .int .i64 ba] 23)
  have hb := Box.new w [.int .i64 te, .int .i64 me, .int .i64 lo, .int .i64 ba] 23 w.heap.size rfl
  have HB := Lib.hid hb
  have GG := Lib.hid gg
  have HR := Lib.hid (hr.grow gg)
  have q0 : 0 ≤ te * me := Int.mul_nonneg t0 m0
  have q1 : te * me ≤ 1000 * 100000 := Int.mul_le_mul t1 m1 m0 (by omega)
  clear hb gg hr
  go_enter Try.func50, Try.ntmps50
  go_upto_region 2 with fail
  refine wp_abs (fun W => Gr (w.alloc (.cells #[.int .i64 te, .int .i64 me, .int .i64 lo, .int .i64 ba] 23)) W) (Below.refl _ _) ?_
  intro W hW
  go_wp2
  go_loopw [7, 5, 6] (fun t s b wr => Hid (∃ k : Nat, k ≤ l.length ∧ t = .int .i64 k ∧ Gr (w.alloc (.cells #[.int .i64 te, .int .i64 me, .int .i64 lo, .int .i64 ba] 23)) wr ∧ s = .int .i64 (sumS false (diag (l.take k))) ∧ b = .int .i64 (badS false lo (diag (l.take k))))) (fun t _ _ _ => l.length - (intOf t).toNat)
  case atStart => exact Lib.hid ⟨0, Nat.zero_le _, rfl, hW, rfl, rfl⟩
  case round =>
    obtain ⟨k, hk, rfl, gW, rfl, rfl⟩ := hrel.out
    clear hrel
    obtain ⟨x0, x1⟩ := sumS_bd false (diag (l.take k)) (diag_bd (fun x hx => hB x (List.mem_of_mem_take hx)))
    have x2 := badS_0 false lo (diag (l.take k))
    have x3 := badS_len false lo (diag (l.take k))
    have x4 : (diag (l.take k)).length = min k l.length := by simp [diag]
    obtain ⟨p0, p1, p2, p3⟩ := (HB.out.keep gW).c4'
    by_cases hlt : k < l.length
    · obtain ⟨x, hx⟩ : ∃ x, l[k]? = some x := ⟨l[k], by simp [hlt]⟩
      obtain ⟨y0, y1⟩ := hB x (List.mem_of_getElem? hx)
      obtain ⟨b1, o1, rfl, h1, cc⟩ := IRow.get (HR.out.grow gW) hx
      have hs : sumS false (diag (l.take (k + 1))) = sumS false (diag (l.take k)) + x := by
        rw [List.take_add_one, hx, Option.toList_some, diag_app, sumS_app]
        simp
      have hd : badS false lo (diag (l.take (k + 1))) = badS false lo (diag (l.take k)) + if x < lo then 1 else 0 := by
        rw [List.take_add_one, hx, Option.toList_some, diag_app, badS_app]
        simp
      rw [x4] at x1 x3
      have HS := Lib.hid hs
      have HD := Lib.hid hd
      generalize sumS false (diag (l.take k)) = S at *
      generalize badS false lo (diag (l.take k)) = B at *
      clear hs hd hx x4
      by_cases hlo : x < lo
      · go_upto_region 6 with fail
        go_quiet (fail)
        go_wp2
        go_roundw
        case rel => exact Lib.hid ⟨k + 1, by omega, by go_num, gW.drewN _, by rw [HS.out], by rw [HD.out, if_pos hlo]⟩
        case measure => simp [intOf]; omega
      · go_upto_region 6 with fail
        go_quiet (fail)
        go_wp2
        go_roundw
        case rel => exact Lib.hid ⟨k + 1, by omega, by go_num, gW.drewN _, by rw [HS.out], by rw [HD.out, if_neg hlo, Int.add_zero]⟩
        case measure => simp [intOf]; omega
    · obtain rfl : k = l.length := by omega
      rw [List.take_length] at *
      have E0 : passB false te me lo ba (diag l) = (decide (badS false lo (diag l) ≤ ba) && decide (te * me ≤ sumS false (diag l))) := rfl
      generalize sumS false (diag l) = S at *
      generalize badS false lo (diag l) = B at *
      by_cases hm : te * me ≤ S
      · have E := Lib.hid (E0.trans (show (decide (B ≤ ba) && decide (te * me ≤ S)) = decide (B ≤ ba) by simp [hm]))
        clear E0
        go_wp2
        go_ret
        exact ⟨ret_bool E.out.symm, GG.out.tr gW⟩
      · have E := Lib.hid (E0.trans (show (decide (B ≤ ba) && decide (te * me ≤ S)) = false by simp [hm]))
        have hm' : decide (te * me ≤ S) = false := by simpa using hm
        clear E0
        go_wp2
        go_ret
        exact ⟨ret_bool E.out.symm, GG.out.tr gW⟩

end Go.Proofs.Ytjdeojpapdphoaa

namespace Go.Proofs.Ytjdeojpapdphoaa
set_option linter.unusedVariables false
set_option linter.unusedSimpArgs false
open Go.RowKit

set_option maxRecDepth 100000 in
set_option maxHeartbeats 1000000 in
theorem refReadings_any (l : List Int) (d : Bool) (hd : inB 0 100000 l = d) (a : Option Addr) (cap : Nat) (w : World) (hr : IRow w a l) :
    Calls Try.prog 26 #[.slice a l.length cap] w fun e w' => e = .returned (.bool d) ∧ Gr w w' := by
  have hl0 := hr.1
  have HD := Lib.hid hd
  clear hd
  go_enter Try.func26, Try.ntmps26
  go_wp2
  go_loopw [3] (fun i wr => Hid (∃ k : Nat, k ≤ l.length ∧ i = .int .i64 k ∧ Gr w wr ∧ inB 0 100000 (l.take k) = true)) (fun i _ => l.length - (intOf i).toNat)
  case atStart => exact Lib.hid ⟨0, Nat.zero_le _, rfl, Below.refl _ _, by simp [inB]⟩
  case round =>
    obtain ⟨k, hk, rfl, gW, ht⟩ := hrel.out
    clear hrel
    by_cases hlt : k < l.length
    · obtain ⟨x, hx⟩ : ∃ x, l[k]? = some x := ⟨l[k], by simp [hlt]⟩
      obtain ⟨b1, o1, rfl, h1, cc⟩ := IRow.get (hr.grow gW) hx
      cases c : in1 0 100000 x with
      | true =>
        have hn : inB 0 100000 (l.take (k + 1)) = true := by
          rw [List.take_add_one, hx, Option.toList_some]
          unfold inB at ht ⊢
          rw [List.all_append, ht]
          simp [c]
        have HN := Lib.hid hn
        clear hn ht hx
        go_wp2_with (go_at_call 25; refine (refIn_any x 0 100000 true c _).mono ?_; rintro e w1 ⟨rfl, g1⟩)
        go_roundw
        case rel => exact Lib.hid ⟨k + 1, by omega, by go_num, gW.tr g1, HN.out⟩
        case measure => simp [intOf]; omega
      | false =>
        have E := Lib.hid (show d = false by
          rw [← HD.out]
          cases h : inB 0 100000 l with
          | false => rfl
          | true =>
            unfold inB at h
            rw [List.all_eq_true] at h
            rw [h x (List.mem_of_getElem? hx)] at c
            cases c)
        clear ht hx
        go_wp2_with (go_at_call 25; refine (refIn_any x 0 100000 false c _).mono ?_; rintro e w1 ⟨rfl, g1⟩)
        go_ret
        exact ⟨ret_bool E.out.symm, gW.tr g1⟩
    · obtain rfl : k = l.length := by omega
      rw [List.take_length] at ht
      have E := Lib.hid (show d = true by rw [← HD.out, ht])
      clear ht
      go_wp2
      go_ret
      exact ⟨ret_bool E.out.symm, gW⟩


set_option maxRecDepth 100000 in
set_option maxHeartbeats 1000000 in
theorem refPasses_any (te me lo ba : Int) (l : List Int) (hl : l.length ≤ 1000) (hB : ∀ x ∈ l, 0 ≤ x ∧ x ≤ 100000) (t0 : 0 ≤ te) (t1 : te ≤ 1000) (m0 : 0 ≤ me) (m1 : me ≤ 100000) (a : Option Addr) (cap : Nat) (w : World) (hr : IRow w a l) :
    Calls Try.prog 65 #[.agg #[.int .i64 te, .int .i64 me, .int .i64 lo, .int .i64 ba], .slice a l.length cap] w fun e w' => e = .returned (.bool (passB false te me lo ba (diag l))) ∧ Gr w w' := by
  have gg := Gr.al w (.cells #[.int .i64 te, .int .i64 me, .int .i64 lo, .int .i64 ba] 23)
  have hb := Box.new w [.int .i64 te, .int .i64 me, .int .i64 lo, .int .i64 ba] 23 w.heap.size rfl
  have HB := Lib.hid hb
  have GG := Lib.hid gg
  have HR := Lib.hid (hr.grow gg)
  have q0 : 0 ≤ te * me := Int.mul_nonneg t0 m0
  have q1 : te * me ≤ 1000 * 100000 := Int.mul_le_mul t1 m1 m0 (by omega)
  clear hb gg hr
  go_enter Try.func65, Try.ntmps65
  go_upto_region 2 with fail
  refine wp_abs (fun W => Gr (w.alloc (.cells #[.int .i64 te, .int .i64 me, .int .i64 lo, .int .i64 ba] 23)) W) (Below.refl _ _) ?_
  intro W hW
  go_wp2
  go_loopw [7, 5, 6] (fun t s b wr => Hid (∃ k : Nat, k ≤ l.length ∧ t = .int .i64 k ∧ Gr (w.alloc (.cells #[.int .i64 te, .int .i64 me, .int .i64 lo, .int .i64 ba] 23)) wr ∧ s = .int .i64 (sumS false (diag (l.take k))) ∧ b = .int .i64 (badS false lo (diag (l.take k))))) (fun t _ _ _ => l.length - (intOf t).toNat)
  case atStart => exact Lib.hid ⟨0, Nat.zero_le _, rfl, hW, rfl, rfl⟩
  case round =>
    obtain ⟨k, hk, rfl, gW, rfl, rfl⟩ := hrel.out
    clear hrel
    obtain ⟨x0, x1⟩ := sumS_bd false (diag (l.take k)) (diag_bd (fun x hx => hB x (List.mem_of_mem_take hx)))
    have x2 := badS_0 false lo (diag (l.take k))
    have x3 := badS_len false lo (diag (l.take k))
    have x4 : (diag (l.take k)).length = min k l.length := by simp [diag]
    obtain ⟨p0, p1, p2, p3⟩ := (HB.out.keep gW).c4'
    by_cases hlt : k < l.length
    · obtain ⟨x, hx⟩ : ∃ x, l[k]? = some x := ⟨l[k], by simp [hlt]⟩
      obtain ⟨y0, y1⟩ := hB x (List.mem_of_getElem? hx)
      obtain ⟨b1, o1, rfl, h1, cc⟩ := IRow.get (HR.out.grow gW) hx
      have hs : sumS false (diag (l.take (k + 1))) = sumS false (diag (l.take k)) + x := by
        rw [List.take_add_one, hx, Option.toList_some, diag_app, sumS_app]
        simp
      have hd : badS false lo (diag (l.take (k + 1))) = badS false lo (diag (l.take k)) + if x < lo then 1 else 0 := by
        rw [List.take_add_one, hx, Option.toList_some, diag_app, badS_app]
        simp
      rw [x4] at x1 x3
      have HS := Lib.hid hs
      have HD := Lib.hid hd
      generalize sumS false (diag (l.take k)) = S at *
      generalize badS false lo (diag (l.take k)) = B at *
      clear hs hd hx x4
      by_cases hlo : x < lo
      · go_upto_region 6 with fail
        go_quiet (fail)
        go_wp2
        go_roundw
        case rel => exact Lib.hid ⟨k + 1, by omega, by go_num, gW.drewN _, by rw [HS.out], by rw [HD.out, if_pos hlo]⟩
        case measure => simp [intOf]; omega
      · go_upto_region 6 with fail
        go_quiet (fail)
        go_wp2
        go_roundw
        case rel => exact Lib.hid ⟨k + 1, by omega, by go_num, gW.drewN _, by rw [HS.out], by rw [HD.out, if_neg hlo, Int.add_zero]⟩
        case measure => simp [intOf]; omega
    · obtain rfl : k = l.length := by omega
      rw [List.take_length] at *
      have E0 : passB false te me lo ba (diag l) = (decide (badS false lo (diag l) ≤ ba) && decide (te * me ≤ sumS false (diag l))) := rfl
      generalize sumS false (diag l) = S at *
      generalize badS false lo (diag l) = B at *
      by_cases hm : te * me ≤ S
      · have E := Lib.hid (E0.trans (show (decide (B ≤ ba) && decide (te * me ≤ S)) = decide (B ≤ ba) by simp [hm]))
        clear E0
        go_wp2
        go_ret
        exact ⟨ret_bool E.out.symm, GG.out.tr gW⟩
      · have E := Lib.hid (E0.trans (show (decide (B ≤ ba) && decide (te * me ≤ S)) = false by simp [hm]))
        have hm' : decide (te * me ≤ S) = false := by simpa using hm
        clear E0
        go_wp2
        go_ret
        exact ⟨ret_bool E.out.symm, GG.out.tr gW⟩

set_option maxRecDepth 100000 in
set_option maxHeartbeats 2000000 in
theorem refRule_any (te me lo ba off : Int) (l : List Int) (R : Int) (hR : ruleL te me lo ba off l = R) (a : Option Addr) (cap : Nat) (w : World) (hr : IRow w a l) :
    Calls Try.prog 21 #[.agg #[.int .i64 te, .int .i64 me, .int .i64 lo, .int .i64 ba], .slice a l.length cap, .int .i64 off] w fun e w' => e = .returned (.int .i64 R) ∧ Gr w w' := by
  have gg := Gr.al w (.cells #[.int .i64 te, .int .i64 me, .int .i64 lo, .int .i64 ba] 23)
  have hb := Box.new w [.int .i64 te, .int .i64 me, .int .i64 lo, .int .i64 ba] 23 w.heap.size rfl
  obtain ⟨q0, q1, q2, q3⟩ := hb.c4'
  have r1 := hr.grow gg
  have tok0 : True := trivial
  have tok1 : True := trivial
  have tok2 : True := trivial
  have tok3 : True := trivial
  have hok : ruleOk te me lo ba = (in1 1 20 te && in1 0 100000 me && in1 0 100000 lo && in1 0 te ba) := by simp [ruleOk, inB, Bool.and_assoc]
  have hof : inB 0 1000 [off] = in1 0 1000 off := by simp [inB]
  unfold ruleL at hR
  rw [hok, hof] at hR
  clear hok hof hr
  cases c0 : in1 1 20 te with
  | false =>
    obtain rfl : R = 2 := by rw [← hR]; simp [c0]
    clear hR
    go_enter Try.func21, Try.ntmps21
    go_wp2_with (first
      | (have _t := tok0; clear tok0 _t; go_at_call 25; refine (refIn_any te 1 20 _ c0 _).mono ?_; rintro e w1 ⟨rfl, hx⟩; replace gg := gg.tr hx; replace hb := hb.keep hx; replace r1 := r1.grow hx; clear hx q0 q1 q2 q3; obtain ⟨q0, q1, q2, q3⟩ := hb.c4'))
    go_ret
    exact ⟨rfl, gg⟩
  | true =>
    cases c1 : in1 0 100000 me with
    | false =>
      obtain rfl : R = 2 := by rw [← hR]; simp [c0, c1]
      clear hR
      go_enter Try.func21, Try.ntmps21
      go_wp2_with (first
        | (have _t := tok0; clear tok0 _t; go_at_call 25; refine (refIn_any te 1 20 _ c0 _).mono ?_; rintro e w1 ⟨rfl, hx⟩; replace gg := gg.tr hx; replace hb := hb.keep hx; replace r1 := r1.grow hx; clear hx q0 q1 q2 q3; obtain ⟨q0, q1, q2, q3⟩ := hb.c4')
        | (have _t := tok1; clear tok1 _t; go_at_call 25; refine (refIn_any me 0 100000 _ c1 _).mono ?_; rintro e w1 ⟨rfl, hx⟩; replace gg := gg.tr hx; replace hb := hb.keep hx; replace r1 := r1.grow hx; clear hx q0 q1 q2 q3; obtain ⟨q0, q1, q2, q3⟩ := hb.c4'))
      go_ret
      exact ⟨rfl, gg⟩
    | true =>
      cases c2 : in1 0 100000 lo with
      | false =>
        obtain rfl : R = 2 := by rw [← hR]; simp [c0, c1, c2]
        clear hR
        go_enter Try.func21, Try.ntmps21
        go_wp2_with (first
          | (have _t := tok0; clear tok0 _t; go_at_call 25; refine (refIn_any te 1 20 _ c0 _).mono ?_; rintro e w1 ⟨rfl, hx⟩; replace gg := gg.tr hx; replace hb := hb.keep hx; replace r1 := r1.grow hx; clear hx q0 q1 q2 q3; obtain ⟨q0, q1, q2, q3⟩ := hb.c4')
          | (have _t := tok1; clear tok1 _t; go_at_call 25; refine (refIn_any me 0 100000 _ c1 _).mono ?_; rintro e w1 ⟨rfl, hx⟩; replace gg := gg.tr hx; replace hb := hb.keep hx; replace r1 := r1.grow hx; clear hx q0 q1 q2 q3; obtain ⟨q0, q1, q2, q3⟩ := hb.c4')
          | (have _t := tok2; clear tok2 _t; go_at_call 25; refine (refIn_any lo 0 100000 _ c2 _).mono ?_; rintro e w1 ⟨rfl, hx⟩; replace gg := gg.tr hx; replace hb := hb.keep hx; replace r1 := r1.grow hx; clear hx q0 q1 q2 q3; obtain ⟨q0, q1, q2, q3⟩ := hb.c4'))
        go_ret
        exact ⟨rfl, gg⟩
      | true =>
        cases c3 : in1 0 te ba with
        | false =>
          obtain rfl : R = 2 := by rw [← hR]; simp [c0, c1, c2, c3]
          clear hR
          go_enter Try.func21, Try.ntmps21
          go_wp2_with (first
            | (have _t := tok0; clear tok0 _t; go_at_call 25; refine (refIn_any te 1 20 _ c0 _).mono ?_; rintro e w1 ⟨rfl, hx⟩; replace gg := gg.tr hx; replace hb := hb.keep hx; replace r1 := r1.grow hx; clear hx q0 q1 q2 q3; obtain ⟨q0, q1, q2, q3⟩ := hb.c4')
            | (have _t := tok1; clear tok1 _t; go_at_call 25; refine (refIn_any me 0 100000 _ c1 _).mono ?_; rintro e w1 ⟨rfl, hx⟩; replace gg := gg.tr hx; replace hb := hb.keep hx; replace r1 := r1.grow hx; clear hx q0 q1 q2 q3; obtain ⟨q0, q1, q2, q3⟩ := hb.c4')
            | (have _t := tok2; clear tok2 _t; go_at_call 25; refine (refIn_any lo 0 100000 _ c2 _).mono ?_; rintro e w1 ⟨rfl, hx⟩; replace gg := gg.tr hx; replace hb := hb.keep hx; replace r1 := r1.grow hx; clear hx q0 q1 q2 q3; obtain ⟨q0, q1, q2, q3⟩ := hb.c4')
            | (have _t := tok3; clear tok3 _t; go_at_call 25; refine (refIn_any ba 0 te _ c3 _).mono ?_; rintro e w1 ⟨rfl, hx⟩; replace gg := gg.tr hx; replace hb := hb.keep hx; replace r1 := r1.grow hx; clear hx q0 q1 q2 q3; obtain ⟨q0, q1, q2, q3⟩ := hb.c4'))
          go_ret
          exact ⟨rfl, gg⟩
        | true =>
          cases c4 : in1 0 1000 off with
          | false =>
            obtain rfl : R = 3 := by rw [← hR]; simp [c0, c1, c2, c3, c4]
            clear hR
            go_enter Try.func21, Try.ntmps21
            go_wp2_with (first
              | (have _t := tok0; clear tok0 _t; go_at_call 25; refine (refIn_any te 1 20 _ c0 _).mono ?_; rintro e w1 ⟨rfl, hx⟩; replace gg := gg.tr hx; replace hb := hb.keep hx; replace r1 := r1.grow hx; clear hx q0 q1 q2 q3; obtain ⟨q0, q1, q2, q3⟩ := hb.c4')
              | (have _t := tok1; clear tok1 _t; go_at_call 25; refine (refIn_any me 0 100000 _ c1 _).mono ?_; rintro e w1 ⟨rfl, hx⟩; replace gg := gg.tr hx; replace hb := hb.keep hx; replace r1 := r1.grow hx; clear hx q0 q1 q2 q3; obtain ⟨q0, q1, q2, q3⟩ := hb.c4')
              | (have _t := tok2; clear tok2 _t; go_at_call 25; refine (refIn_any lo 0 100000 _ c2 _).mono ?_; rintro e w1 ⟨rfl, hx⟩; replace gg := gg.tr hx; replace hb := hb.keep hx; replace r1 := r1.grow hx; clear hx q0 q1 q2 q3; obtain ⟨q0, q1, q2, q3⟩ := hb.c4')
              | (have _t := tok3; clear tok3 _t; go_at_call 25; refine (refIn_any ba 0 te _ c3 _).mono ?_; rintro e w1 ⟨rfl, hx⟩; replace gg := gg.tr hx; replace hb := hb.keep hx; replace r1 := r1.grow hx; clear hx q0 q1 q2 q3; obtain ⟨q0, q1, q2, q3⟩ := hb.c4')
              | (go_at_call 25; refine (refIn_any off 0 1000 _ c4 _).mono ?_; rintro e w1 ⟨rfl, hx⟩; replace gg := gg.tr hx; replace hb := hb.keep hx; replace r1 := r1.grow hx; clear hx q0 q1 q2 q3; obtain ⟨q0, q1, q2, q3⟩ := hb.c4'))
            go_ret
            exact ⟨rfl, gg⟩
          | true =>
            by_cases c5 : te < (l.length : Int)
            · have c5d : decide (te < (l.length : Int)) = true := by simpa using c5
              obtain rfl : R = 5 := by rw [← hR]; simp [c0, c1, c2, c3, c4, c5]
              clear hR
              go_enter Try.func21, Try.ntmps21
              go_wp2_with (first
                | (have _t := tok0; clear tok0 _t; go_at_call 25; refine (refIn_any te 1 20 _ c0 _).mono ?_; rintro e w1 ⟨rfl, hx⟩; replace gg := gg.tr hx; replace hb := hb.keep hx; replace r1 := r1.grow hx; clear hx q0 q1 q2 q3; obtain ⟨q0, q1, q2, q3⟩ := hb.c4')
                | (have _t := tok1; clear tok1 _t; go_at_call 25; refine (refIn_any me 0 100000 _ c1 _).mono ?_; rintro e w1 ⟨rfl, hx⟩; replace gg := gg.tr hx; replace hb := hb.keep hx; replace r1 := r1.grow hx; clear hx q0 q1 q2 q3; obtain ⟨q0, q1, q2, q3⟩ := hb.c4')
                | (have _t := tok2; clear tok2 _t; go_at_call 25; refine (refIn_any lo 0 100000 _ c2 _).mono ?_; rintro e w1 ⟨rfl, hx⟩; replace gg := gg.tr hx; replace hb := hb.keep hx; replace r1 := r1.grow hx; clear hx q0 q1 q2 q3; obtain ⟨q0, q1, q2, q3⟩ := hb.c4')
                | (have _t := tok3; clear tok3 _t; go_at_call 25; refine (refIn_any ba 0 te _ c3 _).mono ?_; rintro e w1 ⟨rfl, hx⟩; replace gg := gg.tr hx; replace hb := hb.keep hx; replace r1 := r1.grow hx; clear hx q0 q1 q2 q3; obtain ⟨q0, q1, q2, q3⟩ := hb.c4')
                | (go_at_call 25; refine (refIn_any off 0 1000 _ c4 _).mono ?_; rintro e w1 ⟨rfl, hx⟩; replace gg := gg.tr hx; replace hb := hb.keep hx; replace r1 := r1.grow hx; clear hx q0 q1 q2 q3; obtain ⟨q0, q1, q2, q3⟩ := hb.c4'))
              go_ret
              exact ⟨rfl, gg⟩
            · have c5d : decide (te < (l.length : Int)) = false := by simpa using c5
              cases c6 : inB 0 100000 l with
              | false =>
                obtain rfl : R = 4 := by rw [← hR]; simp [c0, c1, c2, c3, c4, c5, c6]
                clear hR
                go_enter Try.func21, Try.ntmps21
                go_wp2_with (first
                  | (have _t := tok0; clear tok0 _t; go_at_call 25; refine (refIn_any te 1 20 _ c0 _).mono ?_; rintro e w1 ⟨rfl, hx⟩; replace gg := gg.tr hx; replace hb := hb.keep hx; replace r1 := r1.grow hx; clear hx q0 q1 q2 q3; obtain ⟨q0, q1, q2, q3⟩ := hb.c4')
                  | (have _t := tok1; clear tok1 _t; go_at_call 25; refine (refIn_any me 0 100000 _ c1 _).mono ?_; rintro e w1 ⟨rfl, hx⟩; replace gg := gg.tr hx; replace hb := hb.keep hx; replace r1 := r1.grow hx; clear hx q0 q1 q2 q3; obtain ⟨q0, q1, q2, q3⟩ := hb.c4')
                  | (have _t := tok2; clear tok2 _t; go_at_call 25; refine (refIn_any lo 0 100000 _ c2 _).mono ?_; rintro e w1 ⟨rfl, hx⟩; replace gg := gg.tr hx; replace hb := hb.keep hx; replace r1 := r1.grow hx; clear hx q0 q1 q2 q3; obtain ⟨q0, q1, q2, q3⟩ := hb.c4')
                  | (have _t := tok3; clear tok3 _t; go_at_call 25; refine (refIn_any ba 0 te _ c3 _).mono ?_; rintro e w1 ⟨rfl, hx⟩; replace gg := gg.tr hx; replace hb := hb.keep hx; replace r1 := r1.grow hx; clear hx q0 q1 q2 q3; obtain ⟨q0, q1, q2, q3⟩ := hb.c4')
                  | (go_at_call 25; refine (refIn_any off 0 1000 _ c4 _).mono ?_; rintro e w1 ⟨rfl, hx⟩; replace gg := gg.tr hx; replace hb := hb.keep hx; replace r1 := r1.grow hx; clear hx q0 q1 q2 q3; obtain ⟨q0, q1, q2, q3⟩ := hb.c4')
                  | (go_at_call 26; refine (refReadings_any l _ c6 a cap _ r1).mono ?_; rintro e w2 ⟨rfl, hx⟩; replace gg := gg.tr hx))
                go_ret
                exact ⟨rfl, gg⟩
              | true =>
                obtain rfl : R = 0 := by rw [← hR]; simp [c0, c1, c2, c3, c4, c5, c6]
                clear hR
                go_enter Try.func21, Try.ntmps21
                go_wp2_with (first
                  | (have _t := tok0; clear tok0 _t; go_at_call 25; refine (refIn_any te 1 20 _ c0 _).mono ?_; rintro e w1 ⟨rfl, hx⟩; replace gg := gg.tr hx; replace hb := hb.keep hx; replace r1 := r1.grow hx; clear hx q0 q1 q2 q3; obtain ⟨q0, q1, q2, q3⟩ := hb.c4')
                  | (have _t := tok1; clear tok1 _t; go_at_call 25; refine (refIn_any me 0 100000 _ c1 _).mono ?_; rintro e w1 ⟨rfl, hx⟩; replace gg := gg.tr hx; replace hb := hb.keep hx; replace r1 := r1.grow hx; clear hx q0 q1 q2 q3; obtain ⟨q0, q1, q2, q3⟩ := hb.c4')
                  | (have _t := tok2; clear tok2 _t; go_at_call 25; refine (refIn_any lo 0 100000 _ c2 _).mono ?_; rintro e w1 ⟨rfl, hx⟩; replace gg := gg.tr hx; replace hb := hb.keep hx; replace r1 := r1.grow hx; clear hx q0 q1 q2 q3; obtain ⟨q0, q1, q2, q3⟩ := hb.c4')
                  | (have _t := tok3; clear tok3 _t; go_at_call 25; refine (refIn_any ba 0 te _ c3 _).mono ?_; rintro e w1 ⟨rfl, hx⟩; replace gg := gg.tr hx; replace hb := hb.keep hx; replace r1 := r1.grow hx; clear hx q0 q1 q2 q3; obtain ⟨q0, q1, q2, q3⟩ := hb.c4')
                  | (go_at_call 25; refine (refIn_any off 0 1000 _ c4 _).mono ?_; rintro e w1 ⟨rfl, hx⟩; replace gg := gg.tr hx; replace hb := hb.keep hx; replace r1 := r1.grow hx; clear hx q0 q1 q2 q3; obtain ⟨q0, q1, q2, q3⟩ := hb.c4')
                  | (go_at_call 26; refine (refReadings_any l _ c6 a cap _ r1).mono ?_; rintro e w2 ⟨rfl, hx⟩; replace gg := gg.tr hx))
                go_ret
                exact ⟨rfl, gg⟩

set_option maxRecDepth 100000 in
theorem decide_err (te me lo ba off : Int) (l : List Int) (R : Int) (hR : ruleL te me lo ba off l = R) (h0 : R ≠ 0) (a : Option Addr) (cap : Nat) (w : World) (hr : IRow w a l) :
    Calls Try.prog 19 #[.agg #[.int .i64 te, .int .i64 me, .int .i64 lo, .int .i64 ba], .slice a l.length cap, .int .i64 off] w fun e w' => e = .returned (.tuple #[.int .i64 0, .int .i64 R]) ∧ Gr w w' := by
  have hc : ∀ W, Gr w W → Calls Try.prog 18 #[.agg #[.int .i64 te, .int .i64 me, .int .i64 lo, .int .i64 ba], .slice a l.length cap, .int .i64 off] W fun e w' => e = .returned (.int .i64 R) ∧ Gr W w' := fun W g => by
    have := rule_any te me lo ba off l a cap W (hr.grow g)
    rw [hR] at this
    exact this
  have HC := Lib.hid hc
  have hb := Box.new w [.int .i64 te, .int .i64 me, .int .i64 lo, .int .i64 ba] 23 w.heap.size rfl
  have gg := Gr.al w (.cells #[.int .i64 te, .int .i64 me, .int .i64 lo, .int .i64 ba] 23)
  obtain ⟨q0, q1, q2, q3⟩ := hb.c4'
  have hn : (R != 0) = true := by simpa using h0
  clear hR hc h0
  go_enter Try.func19, Try.ntmps19
  go_wp2_with (go_at_call 18; refine (HC.out _ gg).mono ?_; rintro e w1 ⟨rfl, g1⟩)
  go_ret2
  exact ⟨rfl, gg.tr g1⟩

set_option maxRecDepth 100000 in
theorem need_err (te me lo ba off : Int) (l : List Int) (R : Int) (hR : ruleL te me lo ba off l = R) (h0 : R ≠ 0) (a : Option Addr) (cap : Nat) (w : World) (hr : IRow w a l) :
    Calls Try.prog 20 #[.agg #[.int .i64 te, .int .i64 me, .int .i64 lo, .int .i64 ba], .slice a l.length cap, .int .i64 off] w fun e w' => e = .returned (.tuple #[.int .i64 0, .int .i64 0, .int .i64 R]) ∧ Gr w w' := by
  have hc : ∀ W, Gr w W → Calls Try.prog 18 #[.agg #[.int .i64 te, .int .i64 me, .int .i64 lo, .int .i64 ba], .slice a l.length cap, .int .i64 off] W fun e w' => e = .returned (.int .i64 R) ∧ Gr W w' := fun W g => by
    have := rule_any te me lo ba off l a cap W (hr.grow g)
    rw [hR] at this
    exact this
  have HC := Lib.hid hc
  have hb := Box.new w [.int .i64 te, .int .i64 me, .int .i64 lo, .int .i64 ba] 23 w.heap.size rfl
  have gg := Gr.al w (.cells #[.int .i64 te, .int .i64 me, .int .i64 lo, .int .i64 ba] 23)
  obtain ⟨q0, q1, q2, q3⟩ := hb.c4'
  have hn : (R != 0) = true := by simpa using h0
  clear hR hc h0
  go_enter Try.func20, Try.ntmps20
  go_wp2_with (go_at_call 18; refine (HC.out _ gg).mono ?_; rintro e w1 ⟨rfl, g1⟩)
  exact bodyPost_ret (v := .tuple #[.int .i64 0, .int .i64 0, .int .i64 R]) (by simp [results, Try.results20, go_sem]) rfl ⟨rfl, gg.tr g1⟩

end Go.Proofs.Ytjdeojpapdphoaa

namespace Go.Proofs.Ytjdeojpapdphoaa
set_option linter.unusedVariables false
set_option linter.unusedSimpArgs false
open Go.RowKit

/-- What is said of a value stays while blocks of Z alone turn. -/
def StaysZ (Z : Nat → Prop) (F : World → Value → Prop) : Prop := ∀ v v' x, Kx Z v v' → F v x → F v' x

theorem StaysZ.eq (Z : Nat → Prop) (u : Value) : StaysZ Z (fun _ x => x = u) := fun _ _ _ _ h => h

theorem staysZ_nil {Z : Nat → Prop} : ∀ (i : Nat) (F : World → Value → Prop), ([] : List (World → Value → Prop))[i]? = some F → StaysZ Z F := fun i F h => by simp at h

theorem staysZ_cons {Z : Nat → Prop} {G : World → Value → Prop} {Fs : List (World → Value → Prop)} (h : StaysZ Z G) (hs : ∀ (i : Nat) (F : World → Value → Prop), Fs[i]? = some F → StaysZ Z F) : ∀ (i : Nat) (F : World → Value → Prop), (G :: Fs)[i]? = some F → StaysZ Z F
  | 0, F, e => by simp at e; subst e; exact h
  | i + 1, F, e => hs i F (by simpa using e)

theorem getD_hun {listed : Array Bool} {i : Nat} (h : listed.getD i true = false) : listed.getD i false = false ∧ (listed.setIfInBounds i true).getD i false = true := by
  by_cases hi : i < listed.size
  · simp [hi] at h ⊢
    exact h
  · simp [hi] at h

theorem wp_region_two {P : Program} {Q : Exit → Act → World → Prop} {id : Nat} {W : World} {l : List Oper} (Z : Nat → Prop) (n p q : Nat) (ds : List (Nat × Nat)) (fr : (Nat → Value) → Act) (x0 : Nat → Value) (Fs : List (World → Value → Prop)) (C : World → Prop) (S0 : World → Prop) (S1 : World → Value → Prop) (S2 : World → Value → Value → Prop) {a : Act} (ha : a = fr x0) (hm : P.follows .mixedOrders = true)
    (hB : (decide (n < l.toArray.size) && Region.sinkB .any l.toArray n && Region.chainB .any l.toArray n && minB .any l.toArray n && Region.seqB .any l.toArray (l.toArray.size - n) n (Array.replicate n true ++ Array.replicate (l.toArray.size - n) false)) = true)
    (hD : depB .any l.toArray ds = true) (hpq : (q, p) ∈ ds) (hne : p ≠ q) (hpn : p < n) (hqn : q < n)
    (hst : ∀ (i : Nat) (F : World → Value → Prop), Fs[i]? = some F → StaysZ Z F) (hC : ∀ v v', Kx Z v v' → C v → C v')
    (h0 : ∀ v v', Gr v v' → S0 v → S0 v') (h1 : ∀ v v' x, Gr v v' → S1 v x → S1 v' x) (h2 : ∀ v v' x y, Gr v v' → S2 v x y → S2 v' x y)
    (hC0 : C W.drew) (hS0 : S0 W.drew)
    (hstep : ∀ i, i < n → i ≠ p → i ≠ q → ∀ x v, C v → (∀ (j : Nat) (F : World → Value → Prop), (i, j) ∈ ds → j ≠ p → j ≠ q → Fs[j]? = some F → F v (x j)) → ∀ K : Act → World → Prop, (∀ u v', Gr v v' → (∀ F : World → Value → Prop, Fs[i]? = some F → F v' u) → K (fr (upd x i u)) v') → wpOp P l.toArray Q i K (fr x) v)
    (hp : ∀ x v, C v → S0 v → (∀ (j : Nat) (F : World → Value → Prop), (p, j) ∈ ds → j ≠ p → j ≠ q → Fs[j]? = some F → F v (x j)) → ∀ K : Act → World → Prop, (∀ u v', Kx Z v v' → S1 v' u → K (fr (upd x p u)) v') → wpOp P l.toArray Q p K (fr x) v)
    (hq : ∀ x v, C v → S1 v (x p) → (∀ (j : Nat) (F : World → Value → Prop), (q, j) ∈ ds → j ≠ p → j ≠ q → Fs[j]? = some F → F v (x j)) → ∀ K : Act → World → Prop, (∀ u v', Kx Z v v' → S2 v' (x p) u → K (fr (upd x q u)) v') → wpOp P l.toArray Q q K (fr x) v)
    (hend : ∀ x v, C v → S2 v (x p) (x q) → (∀ (j : Nat) (F : World → Value → Prop), j < n → j ≠ p → j ≠ q → Fs[j]? = some F → F v (x j)) → wpList P l.toArray Q (l.drop n) (fr x) v) : (Code.region id l.toArray true).wp P Q a W := by
  subst ha
  refine wp_region_inv' n ds (fun _ listed a v => ∃ x, a = fr x ∧ C v ∧ (∀ (j : Nat) (F : World → Value → Prop), j ≠ p → j ≠ q → Fs[j]? = some F → listed.getD j false = true → F v (x j)) ∧ (listed.getD q false = true → listed.getD p false = true ∧ S2 v (x p) (x q)) ∧ (listed.getD q false = false → listed.getD p false = true → S1 v (x p)) ∧ (listed.getD p false = false → S0 v)) hm hB hD ⟨x0, rfl, hC0, fun j F _ _ _ h => (by rw [getD_replicate_false] at h; cases h), fun h => (by rw [getD_replicate_false] at h; cases h), fun _ h => (by rw [getD_replicate_false] at h; cases h), fun _ => hS0⟩ ?_ ?_
  · rintro i hi listed a v hun hdep ⟨x, rfl, hc, hf, a2, a1, a0⟩
    have hdf : ∀ (j : Nat) (F : World → Value → Prop), (i, j) ∈ ds → j ≠ p → j ≠ q → Fs[j]? = some F → F v (x j) := fun j F hj e1 e2 hF => hf j F e1 e2 hF (hdep j hj)
    by_cases ep : i = p
    · subst ep
      have hpf := (getD_hun hun).1
      have hqf : listed.getD q false = false := by
        cases hb : listed.getD q false with
        | false => rfl
        | true =>
          have := (a2 hb).1
          rw [hpf] at this
          cases this
      refine hp x v hc (a0 hpf) hdf _ (fun u v' hg hu => ⟨upd x i u, rfl, hC v v' hg hc, fun j F e1 e2 hF hl => ?_, fun h => ?_, fun _ _ => ?_, fun h => ?_⟩)
      · rw [upd_ne x u e1]
        exact hst j F hF v v' _ hg (hf j F e1 e2 hF (by rwa [getD_set_ne false (fun e' => e1 e'.symm)] at hl))
      · rw [getD_set_ne false hne, hqf] at h
        cases h
      · rw [upd_at]
        exact hu
      · rw [(getD_hun hun).2] at h
        cases h
    · by_cases eq : i = q
      · subst eq
        have hpt := hdep p hpq
        have hqf := (getD_hun hun).1
        refine hq x v hc (a1 hqf hpt) hdf _ (fun u v' hg hu => ⟨upd x i u, rfl, hC v v' hg hc, fun j F e1 e2 hF hl => ?_, fun h => ⟨?_, ?_⟩, fun h => ?_, fun h => ?_⟩)
        · rw [upd_ne x u e2]
          exact hst j F hF v v' _ hg (hf j F e1 e2 hF (by rwa [getD_set_ne false (fun e' => e2 e'.symm)] at hl))
        · rw [getD_set_ne false (fun e => hne e.symm)]
          exact hpt
        · rw [upd_at, upd_ne x u hne]
          exact hu
        · rw [(getD_hun hun).2] at h
          cases h
        · rw [getD_set_ne false (fun e => hne e.symm), hpt] at h
          cases h
      · refine hstep i hi ep eq x v hc hdf _ (fun u v' hg hu => ⟨upd x i u, rfl, hC v v' (Kx.gr hg) hc, fun j F e1 e2 hF hl => ?_, fun h => ?_, fun h h' => ?_, fun h => ?_⟩)
        · by_cases e : j = i
          · subst e
            rw [upd_at]
            exact hu F hF
          · rw [upd_ne x u e]
            exact hst j F hF v v' _ (Kx.gr hg) (hf j F e1 e2 hF (by rwa [getD_set_ne false (fun e' => e e'.symm)] at hl))
        · rw [getD_set_ne false eq] at h
          rw [getD_set_ne false ep, upd_ne x u (fun e => ep e.symm), upd_ne x u (fun e => eq e.symm)]
          exact ⟨(a2 h).1, h2 v v' _ _ hg (a2 h).2⟩
        · rw [getD_set_ne false eq] at h
          rw [getD_set_ne false ep] at h'
          rw [upd_ne x u (fun e => ep e.symm)]
          exact h1 v v' _ hg (a1 h h')
        · rw [getD_set_ne false ep] at h
          exact h0 v v' hg (a0 h)
  · rintro listed a v hs hall ⟨x, rfl, hc, hf, a2, a1, a0⟩
    have hl : ∀ j, j < n → listed.getD j false = true := fun j hj => by
      have e1 := hall j hj
      have hl : j < listed.size := by omega
      simp [hl] at e1 ⊢
      exact e1
    exact hend x v hc (a2 (hl q hqn)).2 (fun j F hj e1 e2 hF => hf j F e1 e2 hF (hl j hj))

end Go.Proofs.Ytjdeojpapdphoaa

namespace Go.Proofs.Ytjdeojpapdphoaa
set_option linter.unusedVariables false
set_option linter.unusedSimpArgs false
open Go.RowKit

/-- The worlds of which F holds. -/
structure AtW (F : World → Prop) where
  val : World
  property : F val

theorem sem_value {P : Program} {w w' : World} {m : Sem Value} {n : Next} (h : (m >>= fun x => pure (Next.value x) : Sem Next).run P w = .ok n w') : ∃ v, n = .value v := by
  cases hm : m.run P w with
  | ok x w1 =>
    simp [hm, go_sem] at h
    exact ⟨_, h.1.symm⟩
  | halt x w1 => simp [hm, go_sem] at h

def plainB (o : Oper) : Bool := match o.op with
  | .move _ | .assign _ | .build _ _ | .load _ _ | .binOp _ _ _ _ _ | .unOp _ _ _ | .convert _ _ _ | .fieldAddr _ _ _ | .field _ _ _ | .indexAddr _ _ _ | .index _ _ _ | .extract _ _ => true
  | _ => false

theorem plain_value {P : Program} {ρ : Operand → Value} {o : Oper} (hp : plainB o = true) {w w' : World} {n : Next} (h : (execOp ρ o).run P w = .ok n w') : ∃ v, n = .value v := by
  unfold plainB at hp
  unfold execOp at h
  split at hp <;> rename_i e <;> try (rw [e] at h; exact sem_value h)
  · rw [e] at h
    simp [go_sem] at h
    exact ⟨_, h.1.symm⟩
  · rw [e] at h
    simp [go_sem] at h
    exact ⟨_, h.1.symm⟩
  · cases hp

section
variable {P : Program} {ops : Array Oper} {Q : Exit → Act → World → Prop} {S : World → Prop}

theorem ord_of_quiet {L : Act → World → Prop} {Q0 : Act → Prop} {r : List (Nat × Bool)} (hQ : ∀ d v c a w, Q (.panic c) (Act.put a d v) w → Q (.panic c) a w) (w : World) :
    ∀ (l : List Oper) (j : Nat) (a : Act), (∀ k o, l[k]? = some o → ops[j + k]? = some o) → l.all plainB = true → wpQuiet P ops S Q0 l a → (∀ a', Q0 a' → wpOrd P ops Q S L r a' w) →
      wpOrd P ops Q S L ((List.range' j l.length).map (fun i => (i, true)) ++ r) a w
  | [], j, a, _, _, h, hr => hr a h
  | o :: rest, j, a, hl, hp, h, hr => by
    simp only [List.all_cons, Bool.and_eq_true] at hp
    have ho : ops[j]? = some o := hl 0 o rfl
    have hl' : ∀ k o', rest[k]? = some o' → ops[j + 1 + k]? = some o' := fun k o' hk => by
      have := hl (k + 1) o' (by simpa using hk)
      rwa [show j + (k + 1) = j + 1 + k by omega] at this
    show ∃ o v, ops[j]? = some o ∧ YieldsIf P ops S o v a ∧ _ ∧ wpOrd P ops Q S L ((List.range' (j + 1) rest.length).map (fun i => (i, true)) ++ r) (a.put o.dst v) w
    unfold wpQuiet at h
    by_cases hw : Region.wanted o (yielded ops a.tmps) = true
    · rw [if_pos hw] at h
      obtain ⟨v, h1, h2⟩ := h
      refine ⟨o, v, ho, Or.inl ⟨hw, fun w1 hS => ?_⟩, fun c a w => hQ _ _ c a w, ord_of_quiet hQ w rest (j + 1) _ hl' hp.2 h2 hr⟩
      have h3 := h1 w1 hS
      unfold Oper.quietAt at h3
      cases hrun : (execOp a.eval o).run P w1 with
      | halt x w2 => rw [hrun] at h3; exact h3.elim
      | ok n w2 =>
        obtain ⟨u, rfl⟩ := plain_value hp.1 hrun
        rw [hrun] at h3
        obtain ⟨rfl, rfl⟩ := h3
        rfl
    · rw [if_neg hw] at h
      exact ⟨o, undef, ho, Or.inr ⟨by simpa using hw, rfl⟩, fun c a w => hQ _ _ c a w, ord_of_quiet hQ w rest (j + 1) _ hl' hp.2 h hr⟩

/-- A stretch of reads, walked as a quiet region is. -/
theorem ord_seg {lst : List Oper} {L : Act → World → Prop} {r : List (Nat × Bool)} {w : World} {a : Act} (j m : Nat) (hp : (decide (j + m ≤ lst.length) && ((lst.drop j).take m).all plainB) = true)
    (hQ : ∀ d v c a w, Q (.panic c) (Act.put a d v) w → Q (.panic c) a w) (h : wpQuiet P lst.toArray S (fun a' => wpOrd P lst.toArray Q S L r a' w) ((lst.drop j).take m) a) :
    wpOrd P lst.toArray Q S L ((List.range' j m).map (fun i => (i, true)) ++ r) a w := by
  simp only [Bool.and_eq_true, decide_eq_true_eq] at hp
  have hl : ((lst.drop j).take m).length = m := by simp; omega
  have := ord_of_quiet (Q := Q) (L := L) (r := r) hQ w ((lst.drop j).take m) j a (fun k o hk => by
    have hk' : k < m := by
      have := (List.getElem?_eq_some_iff.1 hk).1
      omega
    rw [List.getElem?_take_of_lt hk', List.getElem?_drop] at hk
    simpa using hk) hp.2 h (fun a' h' => h')
  rwa [hl] at this

theorem wp_region_reads {id : Nat} {a : Act} {w : World} {l : List Oper} (S : World → Prop) (n : Nat) (hm : P.follows .mixedOrders = true)
    (hB : (Region.noSelect l.toArray && decide (n + 1 < l.toArray.size) && Region.sinkB .any l.toArray (n + 1) && Region.chainB .any l.toArray (n + 1) && (l.take n).all plainB && ordB .any l.toArray (n + 1) ((List.range' 0 n).map (fun i => (i, true)) ++ [(n, false)]) (Array.replicate l.toArray.size false)) = true)
    (hQ : ∀ d v c a w, Q (.panic c) (Act.put a d v) w → Q (.panic c) a w)
    (hS : S w.drew) (h : wpQuiet P l.toArray S (fun a' => wpOp P l.toArray Q n (fun a' w' => S w' ∧ wpList P l.toArray Q (l.drop (n + 1)) a' w') a' w.drew) (l.take n) a) : (Code.region id l.toArray true).wp P Q a w := by
  simp only [Bool.and_eq_true, decide_eq_true_eq] at hB
  obtain ⟨⟨⟨⟨⟨hsel, hn⟩, hs⟩, hc⟩, hpl⟩, hord⟩ := hB
  have hn' : n + 1 < l.length := by simpa using hn
  have hlen : (l.take n).length = n := by simp; omega
  refine wp_region_ord S (n + 1) ((List.range' 0 n).map (fun i => (i, true)) ++ [(n, false)]) hm (by simp only [Bool.and_eq_true, decide_eq_true_eq]; exact ⟨⟨⟨⟨⟨hsel, hn⟩, hs⟩, hc⟩, by simp⟩, hord⟩) hS ?_
  have := ord_of_quiet (Q := Q) (L := fun a' w' => wpList P l.toArray Q (l.drop (n + 1)) a' w') (r := [(n, false)]) hQ w.drew (l.take n) 0 a (fun k o hk => by
    rw [Nat.zero_add]
    have hk' : k < n := by
      have := (List.getElem?_eq_some_iff.1 hk).1
      omega
    simpa [List.getElem?_take, hk'] using hk) hpl h (fun a' h' => h')
  rwa [hlen] at this

end

end Go.Proofs.Ytjdeojpapdphoaa

namespace Go.Proofs.Ytjdeojpapdphoaa
set_option linter.unusedVariables false
set_option linter.unusedSimpArgs false
open Go.RowKit

/-- A lot is handed back. -/
def LotPost (n : Nat) (me lo ba off : Int) (T : List V2) (w : World) (e : Ending) (w' : World) : Prop :=
  ∃ A Ao R Ro c d, e = .returned (.tuple #[.agg #[.int .i64 (n : Int), .int .i64 me, .int .i64 lo, .int .i64 ba], .int .i64 off, .slice (some ⟨A, Ao, none⟩) n c, .slice (some ⟨R, Ro, none⟩) n d]) ∧ IRow w' (some ⟨A, Ao, none⟩) (lotTru T n) ∧ IRow w' (some ⟨R, Ro, none⟩) (lotRea T off n) ∧ n ≤ c ∧ n ≤ d ∧ Gr w w'

theorem Apart.after {v u : Value} {g n c H : Nat} (h : Apart v u) (hg : u.ownBlock = some g ∨ g = H) (hv : ∀ b, v.ownBlock = some b → b < H) : Apart v (.slice (some ⟨g, 0, none⟩) n c) := by
  intro b hb hc
  simp only [Value.ownBlock, Option.some.injEq] at hc
  subst hc
  rcases hg with hg | rfl
  · exact h g hb hg
  · have := hv _ hb
    omega

theorem owns_apart {w w' : World} {base : Nat} {e : TypeId} {sz : Nat} {u v : Value} {n : Nat} {xs : List Value} (h : w.ownsRow base e sz u n xs) (hg : w.grownBy w' v.ownBlock) (ha : Apart u v) : w'.ownsRow base e sz u n xs :=
  h.kept hg (by
    cases hub : u.ownBlock with
    | none => exact .inl rfl
    | some b => exact .inr (fun he => ha b hub he.symm))

def TestHeld (b : Nat) (va vb : Int) (u : World) : Prop := u.cell? ⟨b, 0, none⟩ = some (.int .u8 va) ∧ u.cell? ⟨b, 1, none⟩ = some (.int .u8 vb)

def LotHeld (b : Nat) (r0 r1 r2 r3 of : Int) (u : World) : Prop := u.cell? ⟨b, 0, none⟩ = some (.int .u8 r0) ∧ u.cell? ⟨b, 1, none⟩ = some (.int .u8 r1) ∧ u.cell? ⟨b, 2, none⟩ = some (.int .u8 r2) ∧ u.cell? ⟨b, 3, none⟩ = some (.int .u8 r3) ∧ u.cell? ⟨b, 4, none⟩ = some (.int .u8 of)

set_option maxRecDepth 100000 in
set_option maxHeartbeats 4000000 in
theorem lot_any (r0 r1 r2 r3 of : Int) (T : List V2) (hT : ∀ v ∈ T, B2 v) (h0 : 0 ≤ r0 ∧ r0 ≤ 255) (h1 : 0 ≤ r1 ∧ r1 ≤ 255) (h2 : 0 ≤ r2 ∧ r2 ≤ 255) (h3 : 0 ≤ r3 ∧ r3 ≤ 255) (h4 : 0 ≤ of ∧ of ≤ 255)
    (n : Nat) (hn : 1 + r0 % 8 = (n : Int)) (ba : Int) (hba : r3 % ((n : Int) + 1) = ba) (off : Int) (hoff : of % 40 = off) (ta : Option Addr) (tc : Nat) (w : World) (rt : Row2 w ta T) :
    Calls Try.prog 49 #[.agg #[.int .u8 r0, .int .u8 r1, .int .u8 r2, .int .u8 r3, .int .u8 of, .slice ta T.length tc]] w (LotPost n r1 r2 ba off T w) := by
  have gg := (Gr.al w (.cells #[.int .u8 r0, .int .u8 r1, .int .u8 r2, .int .u8 r3, .int .u8 of, .slice ta T.length tc] 83)).tr (Gr.al _ (.cells #[.int .i64 0, .int .i64 0, .int .i64 0, .int .i64 0] 23))
  have hx := (Box.new w [.int .u8 r0, .int .u8 r1, .int .u8 r2, .int .u8 r3, .int .u8 of, .slice ta T.length tc] 83 w.heap.size rfl).keep (Gr.al _ (.cells #[.int .i64 0, .int .i64 0, .int .i64 0, .int .i64 0] 23))
  have hc := Own.new (w.alloc (.cells #[.int .u8 r0, .int .u8 r1, .int .u8 r2, .int .u8 r3, .int .u8 of, .slice ta T.length tc] 83)) [.int .i64 0, .int .i64 0, .int .i64 0, .int .i64 0] 23 (w.heap.size + 1) (by simp)
  have HT := Lib.hid hT
  clear hT
  go_enter Try.func49, Try.ntmps49
  go_upto_region 1 with fail
  refine wp_abs (fun U => Gr w U ∧ Box U w.heap.size [.int .u8 r0, .int .u8 r1, .int .u8 r2, .int .u8 r3, .int .u8 of, .slice ta T.length tc] ∧ Own U (w.heap.size + 1) [.int .i64 0, .int .i64 0, .int .i64 0, .int .i64 0]) ⟨gg, hx, hc⟩ ?_
  clear gg hx hc
  rintro U ⟨gg, hx, hc⟩
  have n1 : 1 ≤ n := by omega
  have n2 : n ≤ 8 := by omega
  have o0 : 0 ≤ off := by omega
  have o1 : off ≤ 39 := by omega
  have b0 : 0 ≤ ba := by rw [← hba]; exact Int.emod_nonneg _ (by omega)
  have b1 : ba < (n : Int) + 1 := by rw [← hba]; exact Int.emod_lt_of_pos _ (by omega)
  have z0 : r0.tmod 8 = r0 % 8 := Int.tmod_eq_emod_of_nonneg h0.1
  have z1 : IntKind.i64.wrap (1 + r0 % 8) = (n : Int) := by rw [IntWalk.i64_in _ (by omega)]; exact hn
  have z2 : IntKind.i64.wrap ((n : Int) + 1) = (n : Int) + 1 := IntWalk.i64_in _ (by omega)
  have z3 : ¬ ((n : Int) + 1 = 0) := by omega
  have z4 : r3.tmod ((n : Int) + 1) = ba := by rw [Int.tmod_eq_emod_of_nonneg h3.1]; exact hba
  have z5 : of.tmod 40 = off := by rw [Int.tmod_eq_emod_of_nonneg h4.1]; exact hoff
  have w1 : IntKind.i64.wrap r1 = r1 := IntWalk.i64_in _ (by omega)
  have w2 : IntKind.i64.wrap r2 = r2 := IntWalk.i64_in _ (by omega)
  have w3 : IntKind.i64.wrap r3 = r3 := IntWalk.i64_in _ (by omega)
  have w4 : IntKind.i64.wrap of = of := IntWalk.i64_in _ (by omega)
  have w5 : IntKind.i64.wrap ba = ba := IntWalk.i64_in _ (by omega)
  have w6 : IntKind.i64.wrap off = off := IntWalk.i64_in _ (by omega)
  obtain ⟨q0, q1, q2, q3, q4, q5⟩ := hx.c6
  go_upto_region 2 with fail
  have hF : LotHeld w.heap.size r0 r1 r2 r3 of U.drew := ⟨q0, q1, q2, q3, q4⟩
  haveI : Nonempty (AtW (LotHeld w.heap.size r0 r1 r2 r3 of)) := ⟨⟨_, hF⟩⟩
  have x1_ : ∀ u : AtW (LotHeld w.heap.size r0 r1 r2 r3 of), u.val.cell? ⟨w.heap.size, 1, none⟩ = some (.int .u8 r1) := fun u => u.property.2.1
  have x2_ : ∀ u : AtW (LotHeld w.heap.size r0 r1 r2 r3 of), u.val.cell? ⟨w.heap.size, 2, none⟩ = some (.int .u8 r2) := fun u => u.property.2.2.1
  have x3_ : ∀ u : AtW (LotHeld w.heap.size r0 r1 r2 r3 of), u.val.cell? ⟨w.heap.size, 3, none⟩ = some (.int .u8 r3) := fun u => u.property.2.2.2.1
  have x4_ : ∀ u : AtW (LotHeld w.heap.size r0 r1 r2 r3 of), u.val.cell? ⟨w.heap.size, 4, none⟩ = some (.int .u8 of) := fun u => u.property.2.2.2.2
  clear q0 q1 q2 q3 q4 q5
  refine wp_region_ord (fun w' => ∃ u : AtW (LotHeld w.heap.size r0 r1 r2 r3 of), w' = u.val) 23 ((List.range' 0 21).map (fun i => (i, true)) ++ [(21, false), (22, false)]) (by kernel_rfl) (by kernel_rfl) ⟨⟨_, hF⟩, rfl⟩ ?_
  refine ord_seg 0 21 (by kernel_rfl) (fun d _ _ _ _ h => by cases d <;> exact h) ?_
  simp only [List.drop_zero, List.take_succ_cons, List.take_zero]
  repeat (go_big_quiet_step (fail))
  refine wpQuiet_nil ?_
  clear x1_ x2_ x3_ x4_
  refine wpOp_step rfl (fun K' hK => ?_)
  go_simp
  have g1 := (Gr.dr U).tr (Gr.al U.drew (.cells #[.int .i64 0, .int .i64 0, .int .i64 0, .int .i64 0] 23))
  obtain ⟨q0, q1, q2, q3, q4, q5⟩ := (hx.keep g1).c6
  refine hK _ _ ⟨⟨⟨_, q0, q1, q2, q3, q4⟩, rfl⟩, ?_⟩
  clear hK q0 q1 q2 q3 q4 q5
  refine wpOp_step rfl (fun K' hK => ?_)
  go_simp
  have gB := (Gr.al U (.cells #[.int .i64 (n : Int), .int .i64 r1, .int .i64 r2, .int .i64 ba] 23)).tr (Gr.dr _)
  have bB := (Box.new U [.int .i64 (n : Int), .int .i64 r1, .int .i64 r2, .int .i64 ba] 23 U.heap.size rfl).keep (Gr.dr _)
  obtain ⟨q0, q1, q2, q3, q4, q5⟩ := (hx.keep gB).c6
  refine hK _ _ ⟨⟨⟨_, q0, q1, q2, q3, q4⟩, rfl⟩, ?_⟩
  clear hK q0 q1 q2 q3 q4 q5
  show wpList _ _ _ (List.drop 23 _) _ _
  simp only [List.drop_succ_cons, List.drop_zero]
  go_upto_region 3 with fail
  obtain ⟨D, hD⟩ : ∃ D, D = U.heap.size := ⟨_, rfl⟩
  have hDne : ¬ D = w.heap.size + 1 := by have := hc.1.1; omega
  have hDne : ¬ D = w.heap.size + 1 := by have := hc.1.1; omega
  rw [← hD] at bB ⊢
  refine wp_abs (fun V => Gr w V ∧ Box V w.heap.size [.int .u8 r0, .int .u8 r1, .int .u8 r2, .int .u8 r3, .int .u8 of, .slice ta T.length tc] ∧ Own V (w.heap.size + 1) [.int .i64 0, .int .i64 0, .int .i64 0, .int .i64 0] ∧ Box V D [.int .i64 (n : Int), .int .i64 r1, .int .i64 r2, .int .i64 ba]) ⟨gg.tr gB, hx.keep gB, hc.keep gB, bB⟩ ?_
  clear gg hx hc bB gB g1 hD hF z0 z1 z2 z3 z4 z5 w1 w2 w3 w4 w5 w6 h0 h1 h2 h3 h4 hn hba hoff
  rintro V ⟨gg, hx, hc, hd⟩
  obtain ⟨i0, hi, hz0, hz1, hz2⟩ := info_parts infoInt
  have gV := (Gr.al V (.cells #[] 3)).tr (Gr.al _ (.cells #[] 3))
  have oA := owns_keep (owns_empty V 3 1) (Gr.al _ (.cells #[] 3))
  have oR := owns_base (owns_empty (V.alloc (.cells #[] 3)) 3 1) (show V.heap.size ≤ (V.alloc (.cells #[] 3)).heap.size by simp)
  go_wp2
  go_loopw [11, 9, 10] (fun i s t wr => Hid (∃ k : Nat, k ≤ n ∧ i = .int .i64 k ∧ Gr V wr ∧ wr.ownsRow V.heap.size 3 1 s k ((lotTru T k).flatMap encI) ∧ wr.ownsRow V.heap.size 3 1 t k ((lotRea T off k).flatMap encI) ∧ Apart s t)) (fun i s t wr => n - (intOf i).toNat)
  case atStart => exact Lib.hid ⟨0, Nat.zero_le _, rfl, gV, oA, by simpa [lotRea] using oR, Apart.lit (by simp)⟩
  case round =>
    clear gV oA oR
    obtain ⟨k, hk, rfl, gW, oA, oR, hap⟩ := hrel.out
    clear hrel
    by_cases hlt : k < n
    · obtain ⟨va, vb, hv⟩ : ∃ a b, lotT T k = ⟨a, b⟩ := ⟨_, _, rfl⟩
      obtain ⟨⟨a0, a1⟩, c0, c1⟩ : (0 ≤ va ∧ va ≤ 255) ∧ (0 ≤ vb ∧ vb ≤ 255) := by have := lotT_bd HT.out k; rw [hv] at this; exact this
      have hA : lotA T k = va := by unfold lotA; rw [hv]
      have hR : lotR T off k = max 0 (va + vb % (2 * off + 1) - off) := by unfold lotR; rw [hv]
      have HA := Lib.hid hA
      have HR := Lib.hid hR
      have gT := Gr.al wr (.cells #[.int .u8 100, .int .u8 0] 100)
      obtain ⟨q0, q1, q2, q3, q4, q5⟩ := (hx.keep (gW.tr gT)).c6
      clear q0 q1 q2 q3 q4 hA hR
      have k1 : k + 1 ≤ maxLen := by unfold maxLen; omega
      have k2 : (k + 1) * 8 ≤ 140737488355328 := by omega
      by_cases hT : k < T.length
      · obtain ⟨x, hx'⟩ : ∃ x, T[k]? = some x := ⟨T[k], by simp [hT]⟩
        obtain rfl : x = ⟨va, vb⟩ := by rw [← hv]; unfold lotT; rw [hx']
        obtain ⟨tb, tof, rfl, ht, e0, e1⟩ := Row2.get (rt.grow (gg.tr (gW.tr gT))) hx'
        dsimp only at e0 e1
        clear hx' hv
        go_upto_region 10 with fail
        refine wp_abs (fun X => Gr wr X ∧ Box X wr.heap.size [.int .u8 va, .int .u8 vb]) ⟨Gr.al wr _, Box.new wr [.int .u8 va, .int .u8 vb] 100 wr.heap.size rfl⟩ ?_
        clear q5
        clear e0 e1
        rintro X ⟨gX, hb⟩
        obtain ⟨p0, p1⟩ := hb.c2
        have y0 : IntKind.i64.wrap va = va := IntWalk.i64_in _ (by omega)
        go_upto_region 11 with (at_builtin; refine wpList_append_sep _ rfl _ _ 24 rfl V.heap.size 3 i0 (.int .i64 0) 1 8 Try.underlying24 hi hz0 hz1 hz2 rfl (by decide) _ _ _ rfl (owns_keep oA (gX.tr (Gr.al X (.cells #[.int .i64 va] 3)))) ⟨X.heap.size, 0, none⟩ 1 1 ([va].map (fun n => Value.int .i64 n)) rfl rfl (cell_news _ _ _) (ints_one _) k1 k2 ((gW.tr (gX.tr (Gr.al _ _))).size) _ _ _ (owns_keep oR (gX.tr (Gr.al X (.cells #[.int .i64 va] 3)))) hap ?_; intro sv Y hA2 hgr hR2 hap2)
        have hneR : ∀ r, u10.ownBlock = some r → V.heap.size ≤ r ∧ r < wr.heap.size := oR.lt
        have hne : ∀ r, u9.ownBlock = some r → V.heap.size ≤ r ∧ r < wr.heap.size := oA.lt
        have hbY := (hb.keep (Gr.al X (.cells #[.int .i64 va] 3))).grown hgr (fun r hr => by have := hne r hr; omega)
        have gY := (gW.tr (gX.tr (Gr.al X (.cells #[.int .i64 va] 3)))).grown' (owns_keep oA (gX.tr (Gr.al X _))) (Nat.le_refl _) hgr
        clear hgr p0 p1 y0
        refine wp_abs (fun Z => Gr V Z ∧ Box Z wr.heap.size [.int .u8 va, .int .u8 vb] ∧ Z.ownsRow V.heap.size 3 1 sv (k + 1) ((lotTru T (k + 1)).flatMap encI) ∧ Z.ownsRow V.heap.size 3 1 u10 k ((lotRea T off k).flatMap encI)) ⟨gY, hbY, (by rw [lotTru_succ, flat_snoc, HA.out]; exact hA2), hR2⟩ ?_
        clear gY hbY hA2 hR2 hne hap oA oR gX hb
        rintro Z ⟨gZ, hb, oA, oR⟩
        obtain ⟨e0, e1⟩ := hb.c2
        obtain ⟨m, hm⟩ : ∃ m, vb % (2 * off + 1) = m := ⟨_, rfl⟩
        have m0 : 0 ≤ m := by rw [← hm]; exact Int.emod_nonneg _ (by omega)
        have m1 : m < 2 * off + 1 := by rw [← hm]; exact Int.emod_lt_of_pos _ (by omega)
        have z1 : IntKind.i64.wrap (2 * off) = 2 * off := IntWalk.i64_in _ (by omega)
        have z2 : IntKind.i64.wrap (2 * off + 1) = 2 * off + 1 := IntWalk.i64_in _ (by omega)
        have z3 : ¬ (2 * off + 1 = 0) := by omega
        have z4 : vb.tmod (2 * off + 1) = m := by rw [Int.tmod_eq_emod_of_nonneg c0]; exact hm
        have z5 : IntKind.i64.wrap m = m := IntWalk.i64_in _ (by omega)
        have z6 : IntKind.i64.wrap (va + m) = va + m := IntWalk.i64_in _ (by omega)
        have z7 : IntKind.i64.wrap (va + m - off) = va + m - off := IntWalk.i64_in _ (by omega)
        have z8 : IntKind.i64.wrap va = va := IntWalk.i64_in _ (by omega)
        have z9 : IntKind.i64.wrap vb = vb := IntWalk.i64_in _ (by omega)
        rw [hm] at HR
        have hF : TestHeld wr.heap.size va vb Z.drew := ⟨e0, e1⟩
        haveI : Nonempty (AtW (TestHeld wr.heap.size va vb)) := ⟨⟨_, hF⟩⟩
        have x0_ : ∀ u : AtW (TestHeld wr.heap.size va vb), u.val.cell? ⟨wr.heap.size, 0, none⟩ = some (.int .u8 va) := fun u => u.property.1
        have x1_ : ∀ u : AtW (TestHeld wr.heap.size va vb), u.val.cell? ⟨wr.heap.size, 1, none⟩ = some (.int .u8 vb) := fun u => u.property.2
        clear e0 e1 hm
        refine wp_region_ord (fun w' => ∃ u : AtW (TestHeld wr.heap.size va vb), w' = u.val) 17 ((List.range' 0 14).map (fun i => (i, true)) ++ [(14, false), (15, false), (16, false)]) (by kernel_rfl) (by kernel_rfl) ⟨⟨_, hF⟩, rfl⟩ ?_
        refine ord_seg 0 14 (by kernel_rfl) (fun d _ _ _ _ h => by cases d <;> exact h) ?_
        simp only [List.drop_zero, List.take_succ_cons, List.take_zero]
        repeat (go_big_quiet_step (fail))
        refine wpQuiet_nil ?_
        clear x0_ x1_
        refine wpOp_step rfl (fun K' hK => ?_)
        go_simp
        refine hK _ _ ⟨⟨⟨_, hF⟩, rfl⟩, ?_⟩
        clear hK
        refine wpOp_step rfl (fun K' hK => ?_)
        go_simp
        have gA := Gr.al Z (.cells #[.int .i64 (max 0 (va + m - off))] 3)
        have gB := gA.tr (Gr.dr _)
        obtain ⟨e0, e1⟩ := (hb.keep gB).c2
        refine hK _ _ ⟨⟨⟨_, e0, e1⟩, rfl⟩, ?_⟩
        clear hK
        refine wpOp_step rfl (fun K' hK => ?_)
        refine step_append_lies _ (by rfl) _ _ 24 (by rfl) V.heap.size 3 i0 (.int .i64 0) 1 8 Try.underlying24 hi hz0 hz1 hz2 rfl (by decide) u10 k _ (by rfl) (owns_keep oR gB) ⟨Z.heap.size, 0, none⟩ 1 1 ([max 0 (va + m - off)].map (fun n => Value.int .i64 n)) (by rfl) (by rfl) (cell_news _ _ _) (ints_one _) (by omega) k1 k2 ?_ _ rfl ?_
        · exact (gZ.tr gB).size
        intro gb cap w4 hR4 hgr4 hat4 hlt4
        have hbY := (hb.keep gB).grown hgr4 (fun r hr => by have := hneR r hr; omega)
        have gY := (gZ.tr gB).grown' (owns_keep oR gB) (Nat.le_refl _) hgr4
        have oA4 := owns_apart (owns_keep oA gB) hgr4 hap2
        have hap4 := Apart.after (n := k + 1) (c := cap) hap2 hat4 (fun b hb => by have := (owns_keep oA gB).lt b hb; exact this.2)
        obtain ⟨e0, e1⟩ := hbY.c2
        refine hK _ _ ⟨⟨⟨_, e0, e1⟩, rfl⟩, ?_⟩
        clear hK hgr4 hat4 e0 e1 hbY
        show wpList _ _ _ (List.drop 17 _) _ _
        simp only [List.drop_succ_cons, List.drop_zero]
        clear z1 z2 z3 z4 z5 z6 z7 z8 z9
        go_wp2
        go_roundw
        case rel => exact Lib.hid ⟨k + 1, by omega, by go_num, gY, oA4, (by rw [lotRea_succ, flat_snoc, HR.out]; exact hR4), hap4⟩
        case measure => simp [intOf]; omega
      · obtain ⟨ea, eb⟩ : va = 100 ∧ vb = 0 := by
          have e1 : (⟨100, 0⟩ : V2) = ⟨va, vb⟩ := by rw [← hv]; unfold lotT; rw [List.getElem?_eq_none (by omega)]
          injection e1 with e2 e3
          exact ⟨e2.symm, e3.symm⟩
        clear hv
        go_upto_region 10 with fail
        refine wp_abs (fun X => Gr wr X ∧ Box X wr.heap.size [.int .u8 va, .int .u8 vb]) ⟨Gr.al wr _, (by rw [ea, eb]; exact Box.new wr [.int .u8 100, .int .u8 0] 100 wr.heap.size rfl)⟩ ?_
        clear q5
        clear ea eb
        rintro X ⟨gX, hb⟩
        obtain ⟨p0, p1⟩ := hb.c2
        have y0 : IntKind.i64.wrap va = va := IntWalk.i64_in _ (by omega)
        go_upto_region 11 with (at_builtin; refine wpList_append_sep _ rfl _ _ 24 rfl V.heap.size 3 i0 (.int .i64 0) 1 8 Try.underlying24 hi hz0 hz1 hz2 rfl (by decide) _ _ _ rfl (owns_keep oA (gX.tr (Gr.al X (.cells #[.int .i64 va] 3)))) ⟨X.heap.size, 0, none⟩ 1 1 ([va].map (fun n => Value.int .i64 n)) rfl rfl (cell_news _ _ _) (ints_one _) k1 k2 ((gW.tr (gX.tr (Gr.al _ _))).size) _ _ _ (owns_keep oR (gX.tr (Gr.al X (.cells #[.int .i64 va] 3)))) hap ?_; intro sv Y hA2 hgr hR2 hap2)
        have hneR : ∀ r, u10.ownBlock = some r → V.heap.size ≤ r ∧ r < wr.heap.size := oR.lt
        have hne : ∀ r, u9.ownBlock = some r → V.heap.size ≤ r ∧ r < wr.heap.size := oA.lt
        have hbY := (hb.keep (Gr.al X (.cells #[.int .i64 va] 3))).grown hgr (fun r hr => by have := hne r hr; omega)
        have gY := (gW.tr (gX.tr (Gr.al X (.cells #[.int .i64 va] 3)))).grown' (owns_keep oA (gX.tr (Gr.al X _))) (Nat.le_refl _) hgr
        clear hgr p0 p1 y0
        refine wp_abs (fun Z => Gr V Z ∧ Box Z wr.heap.size [.int .u8 va, .int .u8 vb] ∧ Z.ownsRow V.heap.size 3 1 sv (k + 1) ((lotTru T (k + 1)).flatMap encI) ∧ Z.ownsRow V.heap.size 3 1 u10 k ((lotRea T off k).flatMap encI)) ⟨gY, hbY, (by rw [lotTru_succ, flat_snoc, HA.out]; exact hA2), hR2⟩ ?_
        clear gY hbY hA2 hR2 hne hap oA oR gX hb
        rintro Z ⟨gZ, hb, oA, oR⟩
        obtain ⟨e0, e1⟩ := hb.c2
        obtain ⟨m, hm⟩ : ∃ m, vb % (2 * off + 1) = m := ⟨_, rfl⟩
        have m0 : 0 ≤ m := by rw [← hm]; exact Int.emod_nonneg _ (by omega)
        have m1 : m < 2 * off + 1 := by rw [← hm]; exact Int.emod_lt_of_pos _ (by omega)
        have z1 : IntKind.i64.wrap (2 * off) = 2 * off := IntWalk.i64_in _ (by omega)
        have z2 : IntKind.i64.wrap (2 * off + 1) = 2 * off + 1 := IntWalk.i64_in _ (by omega)
        have z3 : ¬ (2 * off + 1 = 0) := by omega
        have z4 : vb.tmod (2 * off + 1) = m := by rw [Int.tmod_eq_emod_of_nonneg c0]; exact hm
        have z5 : IntKind.i64.wrap m = m := IntWalk.i64_in _ (by omega)
        have z6 : IntKind.i64.wrap (va + m) = va + m := IntWalk.i64_in _ (by omega)
        have z7 : IntKind.i64.wrap (va + m - off) = va + m - off := IntWalk.i64_in _ (by omega)
        have z8 : IntKind.i64.wrap va = va := IntWalk.i64_in _ (by omega)
        have z9 : IntKind.i64.wrap vb = vb := IntWalk.i64_in _ (by omega)
        rw [hm] at HR
        have hF : TestHeld wr.heap.size va vb Z.drew := ⟨e0, e1⟩
        haveI : Nonempty (AtW (TestHeld wr.heap.size va vb)) := ⟨⟨_, hF⟩⟩
        have x0_ : ∀ u : AtW (TestHeld wr.heap.size va vb), u.val.cell? ⟨wr.heap.size, 0, none⟩ = some (.int .u8 va) := fun u => u.property.1
        have x1_ : ∀ u : AtW (TestHeld wr.heap.size va vb), u.val.cell? ⟨wr.heap.size, 1, none⟩ = some (.int .u8 vb) := fun u => u.property.2
        clear e0 e1 hm
        refine wp_region_ord (fun w' => ∃ u : AtW (TestHeld wr.heap.size va vb), w' = u.val) 17 ((List.range' 0 14).map (fun i => (i, true)) ++ [(14, false), (15, false), (16, false)]) (by kernel_rfl) (by kernel_rfl) ⟨⟨_, hF⟩, rfl⟩ ?_
        refine ord_seg 0 14 (by kernel_rfl) (fun d _ _ _ _ h => by cases d <;> exact h) ?_
        simp only [List.drop_zero, List.take_succ_cons, List.take_zero]
        repeat (go_big_quiet_step (fail))
        refine wpQuiet_nil ?_
        clear x0_ x1_
        refine wpOp_step rfl (fun K' hK => ?_)
        go_simp
        refine hK _ _ ⟨⟨⟨_, hF⟩, rfl⟩, ?_⟩
        clear hK
        refine wpOp_step rfl (fun K' hK => ?_)
        go_simp
        have gA := Gr.al Z (.cells #[.int .i64 (max 0 (va + m - off))] 3)
        have gB := gA.tr (Gr.dr _)
        obtain ⟨e0, e1⟩ := (hb.keep gB).c2
        refine hK _ _ ⟨⟨⟨_, e0, e1⟩, rfl⟩, ?_⟩
        clear hK
        refine wpOp_step rfl (fun K' hK => ?_)
        refine step_append_lies _ (by rfl) _ _ 24 (by rfl) V.heap.size 3 i0 (.int .i64 0) 1 8 Try.underlying24 hi hz0 hz1 hz2 rfl (by decide) u10 k _ (by rfl) (owns_keep oR gB) ⟨Z.heap.size, 0, none⟩ 1 1 ([max 0 (va + m - off)].map (fun n => Value.int .i64 n)) (by rfl) (by rfl) (cell_news _ _ _) (ints_one _) (by omega) k1 k2 ?_ _ rfl ?_
        · exact (gZ.tr gB).size
        intro gb cap w4 hR4 hgr4 hat4 hlt4
        have hbY := (hb.keep gB).grown hgr4 (fun r hr => by have := hneR r hr; omega)
        have gY := (gZ.tr gB).grown' (owns_keep oR gB) (Nat.le_refl _) hgr4
        have oA4 := owns_apart (owns_keep oA gB) hgr4 hap2
        have hap4 := Apart.after (n := k + 1) (c := cap) hap2 hat4 (fun b hb => by have := (owns_keep oA gB).lt b hb; exact this.2)
        obtain ⟨e0, e1⟩ := hbY.c2
        refine hK _ _ ⟨⟨⟨_, e0, e1⟩, rfl⟩, ?_⟩
        clear hK hgr4 hat4 e0 e1 hbY
        show wpList _ _ _ (List.drop 17 _) _ _
        simp only [List.drop_succ_cons, List.drop_zero]
        clear z1 z2 z3 z4 z5 z6 z7 z8 z9
        go_wp2
        go_roundw
        case rel => exact Lib.hid ⟨k + 1, by omega, by go_num, gY, oA4, (by rw [lotRea_succ, flat_snoc, HR.out]; exact hR4), hap4⟩
        case measure => simp [intOf]; omega
    · obtain rfl : k = n := by omega
      have h1 := lotTru_len T k
      have h2 := lotRea_len T off k
      obtain ⟨A, c, hvA, rA, _, hcA⟩ := owns_row_cap (enc := encI) (l := lotTru T k) (fun _ => rfl) (by omega) (by rw [h1]; exact oA)
      obtain ⟨R, d, hvR, rR, _, hcR⟩ := owns_row_cap (enc := encI) (l := lotRea T off k) (fun _ => rfl) (by omega) (by rw [h2]; exact oR)
      have nA : NewAt V.heap.size A := fun b o x e => by
        have := oA.lt b (by rw [hvA, e]; rfl)
        omega
      have nR : NewAt V.heap.size R := fun b o x e => by
        have := oR.lt b (by rw [hvR, e]; rfl)
        omega
      obtain ⟨Ab, Ao, rfl, _⟩ := rA.addr (by omega)
      obtain ⟨Rb, Ro, rfl, _⟩ := rR.addr (by omega)
      rw [h1] at hvA hcA
      rw [h2] at hvR hcR
      subst hvA
      subst hvR
      obtain ⟨d0, d1, d2, d3⟩ := (hd.keep gW).c4
      obtain ⟨u0, u1, u2, u3⟩ := (hc.keep gW).1.c4
      have y0 := (hc.keep gW).2 0
      have y1 := (hc.keep gW).2 1
      have y2 := (hc.keep gW).2 2
      have y3 := (hc.keep gW).2 3
      have hVs : w.heap.size + 1 < V.heap.size := hc.1.1
      have hDn : ¬ D = w.heap.size + 1 := hDne
      have hDn' : ¬ w.heap.size + 1 = D := fun h => hDne h.symm
      clear oA oR hap
      go_wp2
      refine bodyPost_ret (v := .tuple #[.agg #[.int .i64 (k : Int), .int .i64 r1, .int .i64 r2, .int .i64 ba], .int .i64 off, .slice (some ⟨Ab, Ao, none⟩) k c, .slice (some ⟨Rb, Ro, none⟩) k d]) (by simp [results, Try.results49, go_sem, u0, u1, u2, u3]) rfl ⟨Ab, Ao, Rb, Ro, c, d, rfl, ?_, ?_, hcA, hcR, ?_⟩
      · exact ((((rA.other nA (by omega)).other nA (by omega)).other nA (by omega)).other nA (by omega))
      · exact ((((rR.other nR (by omega)).other nR (by omega)).other nR (by omega)).other nR (by omega))
      · exact ((((gg.tr gW).setCell (by simp) _).setCell (by simp) _).setCell (by simp) _).setCell (by simp) _

end Go.Proofs.Ytjdeojpapdphoaa

namespace Go.Proofs.Ytjdeojpapdphoaa
set_option linter.unusedVariables false
set_option linter.unusedSimpArgs false
open Go.RowKit

set_option maxRecDepth 100000 in
theorem refTruth_any (r off : Int) (r0 : 0 ≤ r) (r1 : r ≤ 100000) (o0 : 0 ≤ off) (o1 : off ≤ 1000) (w : World) :
    Calls Try.prog 64 #[.int .i64 r, .int .i64 off] w fun e w' => e = .returned (.agg #[.int .i64 (max 0 (r - off)), .int .i64 (min 100000 (r + off))]) ∧ Gr w w' := by
  have w0 : IntKind.i64.wrap (r - off) = r - off := IntWalk.i64_in _ (by omega)
  have w1 : IntKind.i64.wrap (r + off) = r + off := IntWalk.i64_in _ (by omega)
  have oU := Own.new w [.int .i64 0, .int .i64 0] 45 w.heap.size rfl
  obtain ⟨u0, u1⟩ := oU.1.c2
  have z0 := oU.2 0
  have z1 := oU.2 1
  go_enter Try.func64, Try.ntmps64
  go_wp2
  obtain ⟨y0, y1⟩ := (Box.new w [.int .i64 (max 0 (r - off)), .int .i64 (min 100000 (r + off))] 45 w.heap.size rfl).c2
  exact bodyPost_ret (v := .agg #[.int .i64 (max 0 (r - off)), .int .i64 (min 100000 (r + off))]) (by simp [results, Try.results64, go_sem, y0, y1]) rfl ⟨rfl, Gr.al _ _⟩

/-- One end of the truths of the first so many tests. -/
def endsL (hi : Bool) (off : Int) (l : List Int) (k : Nat) : List Int := (List.range k).map (fun i => if hi then (truthAt off l i).2 else (truthAt off l i).1)

theorem endsL_succ (hi : Bool) (off : Int) (l : List Int) (k : Nat) : endsL hi off l (k + 1) = endsL hi off l k ++ [if hi then (truthAt off l k).2 else (truthAt off l k).1] := by simp [endsL, List.range_succ]

theorem endsL_len (hi : Bool) (off : Int) (l : List Int) (k : Nat) : (endsL hi off l k).length = k := by simp [endsL]

theorem ends_sum (hi : Bool) (off : Int) (l : List Int) (low : Int) : ∀ L : List Nat, sumS false (diag (L.map (fun i => if hi then (truthAt off l i).2 else (truthAt off l i).1))) = sumS hi (L.map (truthAt off l)) ∧ badS false low (diag (L.map (fun i => if hi then (truthAt off l i).2 else (truthAt off l i).1))) = badS hi low (L.map (truthAt off l))
  | [] => by simp [diag, sumS, badS]
  | x :: L => by
    obtain ⟨a, b⟩ := ends_sum hi off l low L
    simp only [diag, List.map_cons, sumS, badS] at a b ⊢
    rw [a, b]
    exact ⟨rfl, rfl⟩

theorem ends_pass (hi : Bool) (n : Nat) (me lo ba off : Int) (l : List Int) : passB false (n : Int) me lo ba (diag (endsL hi off l n)) = passB hi (n : Int) me lo ba (truthsL n off l) := by
  obtain ⟨a, b⟩ := ends_sum hi off l lo (List.range n)
  unfold passB endsL truthsL
  rw [a, b]

theorem endsL_bd {hi : Bool} {off : Int} {l : List Int} {k : Nat} (o0 : 0 ≤ off) (o1 : off ≤ 1000) (hB : ∀ r ∈ l, 0 ≤ r ∧ r ≤ 100000) : ∀ x ∈ endsL hi off l k, 0 ≤ x ∧ x ≤ 100000 := by
  intro x hx
  simp only [endsL, List.mem_map] at hx
  obtain ⟨i, _, rfl⟩ := hx
  obtain ⟨a, b, c, d⟩ := truthAt_bd o0 o1 hB i
  cases hi <;> simp <;> omega

theorem Box.kx {Z : Nat → Prop} {w w' : World} {b : Nat} {vs : List Value} (h : Box w b vs) (k : Kx Z w w') (hz : ¬ Z b) : Box w' b vs :=
  ⟨Nat.lt_of_lt_of_le h.1 k.size, fun i v hv => (World.cell?_of_block (w := w) (a := ⟨b, i, none⟩) (k.block b h.1 hz)).trans (h.2 i v hv)⟩

end Go.Proofs.Ytjdeojpapdphoaa

namespace Go.Proofs.Ytjdeojpapdphoaa
set_option linter.unusedVariables false
set_option linter.unusedSimpArgs false
open Go.RowKit

set_option maxRecDepth 100000 in
set_option maxHeartbeats 2000000 in
theorem refLess_any (l m : List Int) (a b : Option Addr) (c d : Nat) (w : World) (hl : IRow w a l) (hm : IRow w b m) :
    Calls Try.prog 69 #[.slice a l.length c, .slice b m.length d] w fun e w' => e = .returned (.bool (lessI l m)) ∧ Gr w w' := by
  have hl0 := hl.1
  have hm0 := hm.1
  by_cases hlen : l.length = m.length
  · have hb : ((l.length : Int) != (m.length : Int)) = false := by rw [bne_eq_false_iff_eq]; omega
    obtain ⟨R, hR⟩ : ∃ R, lessI l m = R := ⟨_, rfl⟩
    have HR := Lib.hid hR
    have hR2 : lexI l m = R := by rw [← hR]; unfold lessI; rw [if_pos hlen]
    have HR2 := Lib.hid hR2
    have HLen := Lib.hid hlen
    clear hR hR2 hlen
    go_enter Try.func69, Try.ntmps69
    go_wp2
    go_loopw [5] (fun t wr => Hid (∃ k : Nat, k ≤ l.length ∧ t = .int .i64 k ∧ Gr w wr ∧ l.take k = m.take k)) (fun t _ => l.length - (intOf t).toNat)
    case atStart => exact Lib.hid ⟨0, Nat.zero_le _, rfl, Below.refl _ _, by simp⟩
    case round =>
      obtain ⟨k, hk, rfl, gW, ht⟩ := hrel.out
      clear hrel
      by_cases hlt : k < l.length
      · have hlt2 : k < m.length := by have := HLen.out; omega
        obtain ⟨x, hx⟩ : ∃ x, l[k]? = some x := ⟨l[k], by simp [hlt]⟩
        obtain ⟨y, hy⟩ : ∃ y, m[k]? = some y := ⟨m[k], by simp [hlt2]⟩
        obtain ⟨b1, o1, rfl, h1, c1⟩ := IRow.get (hl.grow gW) hx
        obtain ⟨b2, o2, rfl, h2, c2⟩ := IRow.get (hm.grow gW) hy
        by_cases hxy : x = y
        · have hne : (x != y) = false := by simpa using hxy
          have ht' : l.take (k + 1) = m.take (k + 1) := by rw [List.take_add_one, List.take_add_one, hx, hy, ht, hxy]
          have HT := Lib.hid ht'
          clear ht ht' hx hy hxy
          go_upto_region 6 with fail
          go_quiet (fail)
          go_wp2
          go_roundw
          case rel => exact Lib.hid ⟨k + 1, by omega, by go_num, Gr.drewN gW _, HT.out⟩
          case measure => simp [intOf]; omega
        · have hne : (x != y) = true := by simpa using hxy
          have E := Lib.hid (show R = decide (x < y) by rw [← HR2.out]; exact lexI_at l m k x y ht hx hy hxy)
          clear ht hx hy hxy
          go_upto_region 6 with fail
          go_quiet (fail)
          have c1' := (Gr.drewN (Below.refl wr.heap.size wr) nq).keep c1
          have c2' := (Gr.drewN (Below.refl wr.heap.size wr) nq).keep c2
          have gN := Gr.drewN gW nq
          generalize wr.drewN nq = Z at *
          go_upto_region 7 with fail
          go_quiet (fail)
          go_wp2
          go_ret
          exact ⟨ret_bool (by rw [HR.out, E.out]), Gr.drewN gN _⟩
      · obtain rfl : k = l.length := by omega
        have E := Lib.hid (show R = false by
          rw [List.take_length, List.take_of_length_le (by have := HLen.out; omega)] at ht
          rw [← HR2.out, ht]
          exact lexI_self m)
        clear ht
        go_wp2
        go_ret
        exact ⟨ret_bool (by rw [HR.out, E.out]), gW⟩
  · have hb : ((l.length : Int) != (m.length : Int)) = true := by rw [bne_iff_ne]; omega
    have E := Lib.hid (show lessI l m = decide ((l.length : Int) < (m.length : Int)) by unfold lessI; rw [if_neg hlen]; simp)
    go_enter Try.func69, Try.ntmps69
    go_wp2
    go_ret
    exact ⟨ret_bool (by rw [E.out]; simp), Below.refl _ _⟩

theorem cellU {w : World} {b off : Nat} {l : List Int} (h : IRow w (some ⟨b, off, none⟩) l) {j : Nat} {x : Int} (hx : l[j]? = some x) : w.cell? ⟨b, off + j, none⟩ = some (.int .i64 x) := by
  obtain ⟨b', off', e, _, hc⟩ := IRow.get h hx
  injection e with e
  injection e with e1 e2 _
  subst e1
  subst e2
  exact hc

theorem fieldSpU0 (a b : Value) (w : World) : (Instr.field 45 (.agg #[a, b]) 0).run Try.prog w = .ok a w := by kernel_rfl

theorem fieldSpU1 (a b : Value) (w : World) : (Instr.field 45 (.agg #[a, b]) 1).run Try.prog w = .ok b w := by kernel_rfl

set_option maxRecDepth 100000 in
set_option maxHeartbeats 4000000 in
theorem refClose_any (R : List Int) (off spread : Int) (hR : ∀ x ∈ R, 0 ≤ x ∧ x ≤ 100000) (o0 : 0 ≤ off) (o1 : off ≤ 1000) (d : Bool) (hd : closeB off spread R = d) (a : Option Addr) (cap : Nat) (w : World) (hr : IRow w a R) :
    Calls Try.prog 68 #[.slice a R.length cap, .int .i64 off, .int .i64 spread] w fun e w' => e = .returned (.bool d) ∧ Gr w w' := by
  have hl0 := hr.1
  have HD := Lib.hid hd
  have HB := Lib.hid hR
  clear hd hR
  go_enter Try.func68, Try.ntmps68
  go_wp2
  go_loopw [7] (fun i wr => Hid (∃ k : Nat, k ≤ R.length ∧ i = .int .i64 k ∧ Gr w wr ∧ ∀ x ∈ R.take k, ∀ y ∈ R, loO off x - hiO off y ≤ spread)) (fun i _ => R.length - (intOf i).toNat)
  case atStart => exact Lib.hid ⟨0, Nat.zero_le _, rfl, Below.refl _ _, fun x hx => by simp at hx⟩
  case round =>
    obtain ⟨k, hk, rfl, gW, hp⟩ := hrel.out
    have HP := Lib.hid hp
    clear hrel hp
    by_cases hlt : k < R.length
    · obtain ⟨x, hx⟩ : ∃ x, R[k]? = some x := ⟨R[k], by simp [hlt]⟩
      obtain ⟨x0, x1⟩ := HB.out x (List.mem_of_getElem? hx)
      obtain ⟨lx, hlx⟩ : ∃ z, loO off x = z := ⟨_, rfl⟩
      obtain ⟨ux, hux⟩ : ∃ z, hiO off x = z := ⟨_, rfl⟩
      have hlx0 : 0 ≤ lx ∧ lx ≤ 100000 := by rw [← hlx]; unfold loO; omega
      have HC1 : Hid (∀ W', Calls Try.prog 64 #[.int .i64 x, .int .i64 off] W' fun e w' => e = .returned (.agg #[.int .i64 lx, .int .i64 ux]) ∧ Gr W' w') := Lib.hid (fun W' => by
        have := refTruth_any x off x0 x1 o0 o1 W'
        rw [← hlx, ← hux]
        exact this)
      have HX := Lib.hid hx
      have HLX := Lib.hid hlx
      clear hx hlx hux
      go_wp2
      go_loopw [8] (fun i wv => Hid (∃ j : Nat, j ≤ R.length ∧ i = .int .i64 j ∧ Gr w wv ∧ ∀ y ∈ R.take j, lx - hiO off y ≤ spread)) (fun i _ => R.length - (intOf i).toNat)
      case atStart => exact Lib.hid ⟨0, Nat.zero_le _, rfl, gW, fun y hy => by simp at hy⟩
      case round =>
        clear gW
        obtain ⟨j, hj, rfl, gW, hq⟩ := hrel.out
        have HQ := Lib.hid hq
        clear hrel hq
        by_cases hjt : j < R.length
        · obtain ⟨y, hy⟩ : ∃ y, R[j]? = some y := ⟨R[j], by simp [hjt]⟩
          obtain ⟨y0, y1⟩ := HB.out y (List.mem_of_getElem? hy)
          obtain ⟨ly, hly⟩ : ∃ z, loO off y = z := ⟨_, rfl⟩
          obtain ⟨uy, huy⟩ : ∃ z, hiO off y = z := ⟨_, rfl⟩
          have huy0 : 0 ≤ uy ∧ uy ≤ 100000 := by rw [← huy]; unfold hiO; omega
          have HC2 : Hid (∀ W', Calls Try.prog 64 #[.int .i64 y, .int .i64 off] W' fun e w' => e = .returned (.agg #[.int .i64 ly, .int .i64 uy]) ∧ Gr W' w') := Lib.hid (fun W' => by
            have := refTruth_any y off y0 y1 o0 o1 W'
            rw [← hly, ← huy]
            exact this)
          obtain ⟨b1, o1', rfl, _, c1⟩ := IRow.get (hr.grow gW) HX.out
          have c2 := cellU (hr.grow gW) hy
          have q1 := From.keep c1
          have q2 := From.keep c2
          have hf0 := fieldSpU0
          have hf1 := fieldSpU1
          have w0 : IntKind.i64.wrap (lx - uy) = lx - uy := IntWalk.i64_in _ (by omega)
          have HY := Lib.hid hy
          have HUY := Lib.hid huy
          clear c1 c2 hy hly huy
          go_upto_region 7 with fail
          refine wp_region_gr (by kernel_rfl) (by kernel_rfl) ?_
          repeat (go_big_quiet_step (first
            | (go_at_call 64; (with_reducible exact Calls.gr (HC1.out _)))
            | (go_at_call 64; (with_reducible exact Calls.gr (HC2.out _)))))
          refine wpQuiet_nil ?_
          rintro _ ⟨u, rfl⟩
          clear q1 q2 hf0 hf1
          have gU := u.property
          generalize u.val = Z at *
          by_cases hs : spread < lx - uy
          · have E := Lib.hid (show d = false by
              rw [← HD.out]
              cases hc : closeB off spread R with
              | false => rfl
              | true =>
                have := close_iff.1 hc x (List.mem_of_getElem? HX.out) y (List.mem_of_getElem? HY.out)
                rw [HLX.out, HUY.out] at this
                omega)
            have hs' : decide (spread < lx - uy) = true := by simpa using hs
            go_wp2
            go_ret
            exact ⟨ret_bool E.out.symm, gW.tr gU⟩
          · have hs' : decide (spread < lx - uy) = false := by simpa using hs
            have HN := Lib.hid (show ∀ y ∈ R.take (j + 1), lx - hiO off y ≤ spread from fun z hz => by
              rw [List.take_add_one, HY.out] at hz
              rcases List.mem_append.1 hz with h | h
              · exact HQ.out z h
              · simp at h
                subst h
                rw [HUY.out]
                omega)
            go_wp2
            go_roundw
            case rel => exact Lib.hid ⟨j + 1, by omega, by go_num, gW.tr gU, HN.out⟩
            case measure => simp [intOf]; omega
        · obtain rfl : j = R.length := by omega
          have HN := Lib.hid (show ∀ z ∈ R.take (k + 1), ∀ y ∈ R, loO off z - hiO off y ≤ spread from fun z hz y hy => by
            rw [List.take_add_one, HX.out] at hz
            rcases List.mem_append.1 hz with h | h
            · exact HP.out z h y hy
            · simp at h
              subst h
              rw [HLX.out]
              exact HQ.out y (by rw [List.take_length]; exact hy))
          clear hjt hj
          go_wp2
          go_roundw
          case rel => exact Lib.hid ⟨k + 1, by omega, by go_num, gW, HN.out⟩
          case measure => simp [intOf]; omega
    · obtain rfl : k = R.length := by omega
      have E := Lib.hid (show d = true by
        rw [← HD.out, close_iff]
        have := HP.out
        rw [List.take_length] at this
        exact this)
      go_wp2
      go_ret
      exact ⟨ret_bool E.out.symm, gW⟩

end Go.Proofs.Ytjdeojpapdphoaa

namespace Go.Proofs.Ytjdeojpapdphoaa
set_option linter.unusedVariables false
set_option linter.unusedSimpArgs false
open Go.RowKit

/-- The sets' bits; the least list of the first so many sets that leave the others close. -/
def bitQ (s i : Nat) : Bool := s.testBit i

def bestO (off spread : Int) (l : List Int) : Nat → Option (List Int)
  | 0 => none
  | k + 1 => if (closeB off spread (restQ l (bitQ k)) && (match bestO off spread l k with | none => true | some b => lessI (intsN (outQ l.length (bitQ k))) b)) = true then some (intsN (outQ l.length (bitQ k))) else bestO off spread l k

def restTo (l : List Int) (q : Nat → Bool) (k : Nat) : List Int := ((List.range k).filter (fun i => !q i)).map (fun i => l.getD i 0)

theorem restTo_all (l : List Int) (q : Nat → Bool) : restTo l q l.length = restQ l q := rfl

theorem outQ_succ (q : Nat → Bool) (k : Nat) : intsN (outQ (k + 1) q) = if q k = true then intsN (outQ k q) ++ [(k : Int)] else intsN (outQ k q) := by
  unfold outQ intsN
  rw [List.range_succ, List.filter_append]
  cases h : q k <;> simp [h]

theorem restTo_succ (l : List Int) (q : Nat → Bool) (k : Nat) : restTo l q (k + 1) = if q k = true then restTo l q k else restTo l q k ++ [l.getD k 0] := by
  unfold restTo
  rw [List.range_succ, List.filter_append]
  cases h : q k <;> simp [h]

theorem outQ_len (q : Nat → Bool) (k : Nat) : (intsN (outQ k q)).length ≤ k := by
  rw [intsN_len]
  have := List.length_filter_le q (List.range k)
  simpa [outQ] using this

theorem restTo_len (l : List Int) (q : Nat → Bool) (k : Nat) : (restTo l q k).length ≤ k := by
  have := List.length_filter_le (fun i => !q i) (List.range k)
  simpa [restTo] using this

theorem restTo_bd {l : List Int} (hl : ∀ x ∈ l, 0 ≤ x ∧ x ≤ 100000) (q : Nat → Bool) : ∀ x ∈ restQ l q, 0 ≤ x ∧ x ≤ 100000 := by
  intro x hx
  obtain ⟨i, hi, _, rfl⟩ := rest_mem.1 hx
  obtain ⟨y, _, e, hy⟩ := getD_in hi
  rw [e]
  exact hl y hy

/-- What is found is the list of some set that leaves the others close, and no such set's list is smaller. -/
theorem bestO_is (off spread : Int) (l : List Int) : ∀ k : Nat, (∀ b, bestO off spread l k = some b → ∃ s, s < k ∧ closeB off spread (restQ l (bitQ s)) = true ∧ b = intsN (outQ l.length (bitQ s))) ∧ (∀ s, s < k → closeB off spread (restQ l (bitQ s)) = true → ∃ b, bestO off spread l k = some b ∧ lessI (intsN (outQ l.length (bitQ s))) b = false)
  | 0 => ⟨fun b h => by simp [bestO] at h, fun s h => by omega⟩
  | k + 1 => by
    obtain ⟨ih1, ih2⟩ := bestO_is off spread l k
    have self : ∀ a : List Int, lessI a a = false := fun a => by unfold lessI; rw [if_pos rfl, lexI_self]
    unfold bestO
    by_cases c : (closeB off spread (restQ l (bitQ k)) && (match bestO off spread l k with | none => true | some b => lessI (intsN (outQ l.length (bitQ k))) b)) = true
    · rw [if_pos c]
      simp only [Bool.and_eq_true] at c
      refine ⟨fun b h => ?_, fun s hs hc => ⟨_, rfl, ?_⟩⟩
      · simp only [Option.some.injEq] at h
        exact ⟨k, by omega, c.1, h.symm⟩
      · rcases Nat.lt_or_ge s k with e | e
        · obtain ⟨b, hb, hb2⟩ := ih2 s e hc
          have c2 := c.2
          rw [hb] at c2
          cases hl : lessI (intsN (outQ l.length (bitQ s))) (intsN (outQ l.length (bitQ k))) with
          | false => rfl
          | true =>
            have := lessI_trans hl c2
            rw [hb2] at this
            cases this
        · obtain rfl : s = k := by omega
          exact self _
    · rw [if_neg c]
      refine ⟨fun b h => ?_, fun s hs hc => ?_⟩
      · obtain ⟨s, h1, h2, h3⟩ := ih1 b h
        exact ⟨s, by omega, h2, h3⟩
      · rcases Nat.lt_or_ge s k with e | e
        · exact ih2 s e hc
        · obtain rfl : s = k := by omega
          cases hb : bestO off spread l s with
          | none => exact absurd (by rw [hb, hc]; rfl) c
          | some b =>
            refine ⟨b, rfl, ?_⟩
            cases hl : lessI (intsN (outQ l.length (bitQ s))) b with
            | false => rfl
            | true => exact absurd (by rw [hb, hc]; exact hl) c

/-- Every choice of the readings is a set. -/
theorem bits_of (q : Nat → Bool) : ∀ n : Nat, ∃ s, s < 2 ^ n ∧ ∀ i, i < n → bitQ s i = q i
  | 0 => ⟨0, by simp, fun i h => by omega⟩
  | n + 1 => by
    obtain ⟨s, h1, h2⟩ := bits_of q n
    cases hq : q n with
    | false =>
      refine ⟨s, by rw [Nat.pow_succ]; omega, fun i hi => ?_⟩
      rcases Nat.lt_or_ge i n with e | e
      · exact h2 i e
      · obtain rfl : i = n := by omega
        rw [hq]
        exact Nat.testBit_lt_two_pow h1
    | true =>
      refine ⟨2 ^ n + s, by rw [Nat.pow_succ]; omega, fun i hi => ?_⟩
      unfold bitQ
      rcases Nat.lt_or_ge i n with e | e
      · rw [Nat.testBit_two_pow_add_gt e]
        exact h2 i e
      · obtain rfl : i = n := by omega
        rw [hq, Nat.testBit_two_pow_add_eq, Nat.testBit_lt_two_pow h1]
        rfl

theorem outQ_congr {n : Nat} {p q : Nat → Bool} (h : ∀ i, i < n → p i = q i) : outQ n p = outQ n q := by
  unfold outQ
  exact List.filter_congr (fun i hi => h i (List.mem_range.1 hi))

theorem restQ_congr {l : List Int} {p q : Nat → Bool} (h : ∀ i, i < l.length → p i = q i) : restQ l p = restQ l q := by
  unfold restQ
  congr 1
  exact List.filter_congr (fun i hi => by rw [h i (List.mem_range.1 hi)])

/-- All sets: the least list is Odd's. -/
theorem best_odd {off spread : Int} (o0 : 0 ≤ off) (s0 : 0 ≤ spread) {l : List Int} (hl : ∀ x ∈ l, 0 ≤ x ∧ x ≤ 100000) : bestO off spread l (2 ^ l.length) = some (intsN (oddTo off spread l l.length)) := by
  obtain ⟨h1, h2⟩ := bestO_is off spread l (2 ^ l.length)
  rcases Nat.eq_zero_or_pos l.length with h0 | h0
  · have e : l = [] := List.eq_nil_of_length_eq_zero h0
    subst e
    obtain ⟨b, hb, _⟩ := h2 0 (by simp) (by simp [restQ, closeB])
    obtain ⟨s, _, _, rfl⟩ := h1 b hb
    rw [hb]
    rfl
  · obtain ⟨j, hj, ho⟩ := odd_is off spread l l.length h0
    obtain ⟨s, hs, hsb⟩ := bits_of (winB off spread l j) l.length
    have hc : closeB off spread (restQ l (bitQ s)) = true := by
      rw [restQ_congr (q := winB off spread l j) (fun i hi => hsb i hi)]
      exact win_close off spread l j
    obtain ⟨b, hb, hb2⟩ := h2 s hs hc
    rw [outQ_congr (q := winB off spread l j) (fun i hi => hsb i hi), ← left_out, ← ho] at hb2
    obtain ⟨s', hs', hc', rfl⟩ := h1 b hb
    have h3 := odd_least o0 s0 hl h0 hc'
    rw [hb, lessI_tri h3 hb2]

end Go.Proofs.Ytjdeojpapdphoaa

namespace Go.Proofs.Ytjdeojpapdphoaa
set_option linter.unusedVariables false
set_option linter.unusedSimpArgs false
open Go.RowKit

set_option maxRecDepth 100000 in
set_option maxHeartbeats 2000000 in
theorem refOdd_any (l : List Int) (hn : l.length ≤ 10) (off spread : Int) (hl : ∀ x ∈ l, 0 ≤ x ∧ x ≤ 100000) (o0 : 0 ≤ off) (o1 : off ≤ 1000) (s0 : 0 ≤ spread) (la : Option Addr) (lc : Nat) (w : World) (rl : IRow w la l) :
    Calls Try.prog 28 #[.slice la l.length lc, .int .i64 off, .int .i64 spread] w fun e w' => ∃ b d, e = .returned (.slice b (intsN (oddTo off spread l l.length)).length d) ∧ IRow w' b (intsN (oddTo off spread l l.length)) ∧ Gr w w' := by
  obtain ⟨i0, hi, hz0, hz1, hz2⟩ := info_parts infoInt
  have hl0 := rl.1
  obtain ⟨p1, p2⟩ := pow_bd hn
  have HBO := Lib.hid (best_odd (off := off) (spread := spread) o0 s0 hl)
  obtain ⟨N, hN⟩ : ∃ N, 2 ^ l.length = N := ⟨_, rfl⟩
  have e0 : (2 : Int) ^ l.length = (N : Int) := by rw [← hN]; simp
  rw [hN] at p1 p2
  have HN := Lib.hid hN
  have z0 : IntKind.i64.wrap (N : Int) = N := IntWalk.i64_in _ (by omega)
  have zu : IntKind.u64.wrap (l.length : Int) = l.length := IntWalk.u64_in _ (by omega)
  have HL := Lib.hid hl
  have HCl : Hid (∀ (q : Nat → Bool) (d : Bool) (a : Option Addr) (c : Nat) (W : World), closeB off spread (restQ l q) = d → IRow W a (restQ l q) → Calls Try.prog 68 #[.slice a (restQ l q).length c, .int .i64 off, .int .i64 spread] W fun e w' => e = .returned (.bool d) ∧ Gr W w') := Lib.hid (fun q d a c W hd hr => refClose_any (restQ l q) off spread (restTo_bd hl q) o0 o1 d hd a c W hr)
  clear hl hN
  go_enter Try.func28, Try.ntmps28
  go_upto_region 2 with fail
  refine wp_abs (fun U => Gr w U) (Gr.al w (.cells #[] 3)) ?_
  intro U gU
  go_wp2
  go_loopw [9, 7, 8] (fun i b f wr => Hid (∃ (k : Nat) (ba : Option Addr) (bc : Nat) (B : List Int), k ≤ N ∧ i = .int .i64 k ∧ b = .slice ba B.length bc ∧ f = .bool (bestO off spread l k).isSome ∧ (bestO off spread l k).getD [] = B ∧ IRow wr ba B ∧ Gr w wr)) (fun i _ _ _ => N - (intOf i).toNat)
  case atStart => exact Lib.hid ⟨0, _, _, [], Nat.zero_le _, rfl, rfl, rfl, rfl, RowOf.nil, gU⟩
  case round =>
    clear gU
    obtain ⟨k, ba, bc, Bs, hk, rfl, rfl, rfl, hB, rB, gW⟩ := hrel.out
    clear hrel
    by_cases hlt : k < N
    · have hlt' : (k : Int) < (N : Int) := by omega
      have k1024 : k < 1024 := by omega
      go_upto_region 6 with fail
      have oA := owns_keep (owns_empty wr 3 1) (Gr.al _ (.cells #[] 3))
      have oR := owns_base (owns_empty (wr.alloc (.cells #[] 3)) 3 1) (show wr.heap.size ≤ (wr.alloc (.cells #[] 3)).heap.size by simp)
      have gA := (Gr.al wr (.cells #[] 3)).tr (Gr.al _ (.cells #[] 3))
      have hap0 : Apart (.slice (some ⟨wr.heap.size, 0, none⟩) 0 0) (.slice (some ⟨(wr.alloc (.cells #[] 3)).heap.size, 0, none⟩) 0 0) := Apart.lit (by simp)
      rw [show (wr.alloc (.cells #[] 3)).heap.size = wr.heap.size + 1 by simp] at oR hap0
      obtain ⟨E0, hE0⟩ : ∃ E, E = wr.heap.size := ⟨_, rfl⟩
      have hE1 : wr.heap.size ≤ E0 := by omega
      have hE2 : E0 ≤ wr.heap.size := by omega
      rw [← hE0] at oA oR hap0 ⊢
      clear hE0
      refine wp_abs (fun V => Gr wr V ∧ V.ownsRow E0 3 1 (.slice (some ⟨E0, 0, none⟩) 0 0) 0 [] ∧ V.ownsRow E0 3 1 (.slice (some ⟨E0 + 1, 0, none⟩) 0 0) 0 []) ⟨gA, oA, oR⟩ ?_
      clear gA oA oR
      rintro V ⟨gV, oA, oR⟩
      obtain ⟨q, hq⟩ : ∃ q, bitQ k = q := ⟨_, rfl⟩
      have HQ := Lib.hid hq
      clear hq
      have hbest : bestO off spread l (k + 1) = if (closeB off spread (restQ l q) && (match bestO off spread l k with | none => true | some b => lessI (intsN (outQ l.length q)) b)) = true then some (intsN (outQ l.length q)) else bestO off spread l k := by
        rw [← HQ.out]
        rfl
      have HBE := Lib.hid hbest
      have HBB := Lib.hid hB
      clear hbest hB
      go_wp2
      go_loopw [12, 10, 11] (fun i s u wv => Hid (∃ j : Nat, j ≤ l.length ∧ i = .int .i64 j ∧ Gr wr wv ∧ wv.ownsRow E0 3 1 s (intsN (outQ j q)).length ((intsN (outQ j q)).flatMap encI) ∧ wv.ownsRow E0 3 1 u (restTo l q j).length ((restTo l q j).flatMap encI) ∧ Apart s u)) (fun i _ _ _ => l.length - (intOf i).toNat)
      case atStart => exact Lib.hid ⟨0, Nat.zero_le _, rfl, gV, oA, oR, hap0⟩
      case round =>
        clear gV oA oR hap0
        obtain ⟨j, hj, rfl, gV, oA, oR, hap⟩ := hrel.out
        clear hrel
        have lA := outQ_len q j
        have lR := restTo_len l q j
        have sA := outQ_succ q j
        have sR := restTo_succ l q j
        by_cases hjt : j < l.length
        · obtain ⟨x, hx, hgx, _⟩ := getD_in hjt
          rw [hgx] at sR
          obtain ⟨b1, o1', rfl, _, c1⟩ := IRow.get (rl.grow (gW.tr gV)) hx
          have hjt' : (j : Int) < (l.length : Int) := by omega
          have zj : IntKind.u64.wrap (j : Int) = j := IntWalk.u64_in _ (by omega)
          have e1 := shr_nat k j
          obtain ⟨Q, hQ⟩ : ∃ Q, k / 2 ^ j = Q := ⟨_, rfl⟩
          have hbit := bit_and k1024 hQ
          rw [hQ] at e1
          have hqj : k.testBit j = q j := by rw [← HQ.out]; rfl
          rw [hqj] at hbit
          obtain ⟨OA, hOA⟩ : ∃ L, intsN (outQ j q) = L := ⟨_, rfl⟩
          obtain ⟨RA, hRA⟩ : ∃ L, restTo l q j = L := ⟨_, rfl⟩
          rw [hOA] at oA lA sA
          rw [hRA] at oR lR sR
          have HSA := Lib.hid sA
          have HSR := Lib.hid sR
          have HoA := Lib.hid hOA
          have HoR := Lib.hid hRA
          clear sA sR hQ hqj hx hgx hOA hRA
          cases hqq : q j with
          | true =>
            rw [hqq, if_pos rfl] at hbit
            have hA2 : intsN (outQ (j + 1) q) = OA ++ [(j : Int)] := by rw [HSA.out, if_pos hqq]
            have hR2 : restTo l q (j + 1) = RA := by rw [HSR.out, if_pos hqq]
            have HA2 := Lib.hid hA2
            have HR2 := Lib.hid hR2
            clear hA2 hR2 hqq
            have gAl := Gr.al wr (.cells #[.int .i64 (j : Int)] 3)
            have h63 : OA.length + 1 ≤ maxLen := by unfold maxLen; omega
            have hby : (OA.length + 1) * 8 ≤ 140737488355328 := by omega
            have hsz : E0 ≤ (wr.alloc (.cells #[.int .i64 (j : Int)] 3)).heap.size := by have := gAl.size; have := gV.size; omega
            go_wp2_with (at_builtin; refine wpList_append_sep _ rfl _ _ 24 rfl E0 3 i0 (.int .i64 0) 1 8 Try.underlying24 hi hz0 hz1 hz2 rfl (by decide) u10 OA.length _ rfl (owns_keep oA gAl) ⟨wr.heap.size, 0, none⟩ 1 1 ([(j : Int)].map (fun n => Value.int .i64 n)) rfl rfl (cell_news _ _ _) (ints_one _) h63 hby hsz u11 _ _ (owns_keep oR gAl) hap ?_; intro v' Y o1 hgr o2 hap2)
            go_roundw
            case rel => exact Lib.hid ⟨j + 1, by omega, by go_num, (gV.tr gAl).grown' (owns_keep oA gAl) hE1 hgr, by rw [HA2.out, flat_snoc, List.length_append]; exact o1, by rw [HR2.out]; exact o2, hap2⟩
            case measure => simp [intOf]; omega
          | false =>
            rw [hqq, if_neg (by decide)] at hbit
            have hA2 : intsN (outQ (j + 1) q) = OA := by rw [HSA.out, if_neg (by rw [hqq]; decide)]
            have hR2 : restTo l q (j + 1) = RA ++ [x] := by rw [HSR.out, if_neg (by rw [hqq]; decide)]
            have HA2 := Lib.hid hA2
            have HR2 := Lib.hid hR2
            clear hA2 hR2 hqq
            have gAl := Gr.al wr (.cells #[.int .i64 x] 3)
            have h63 : RA.length + 1 ≤ maxLen := by unfold maxLen; omega
            have hby : (RA.length + 1) * 8 ≤ 140737488355328 := by omega
            have hsz : E0 ≤ (wr.alloc (.cells #[.int .i64 x] 3)).heap.size := by have := gAl.size; have := gV.size; omega
            go_wp2_with (at_builtin; refine wpList_append_sep _ rfl _ _ 24 rfl E0 3 i0 (.int .i64 0) 1 8 Try.underlying24 hi hz0 hz1 hz2 rfl (by decide) u11 RA.length _ rfl (owns_keep oR gAl) ⟨wr.heap.size, 0, none⟩ 1 1 ([x].map (fun n => Value.int .i64 n)) rfl rfl (cell_news _ _ _) (ints_one _) h63 hby hsz u10 _ _ (owns_keep oA gAl) hap.symm ?_; intro v' Y o1 hgr o2 hap2)
            go_roundw
            case rel => exact Lib.hid ⟨j + 1, by omega, by go_num, (gV.tr gAl).grown' (owns_keep oR gAl) hE1 hgr, by rw [HA2.out]; exact o2, by rw [HR2.out, flat_snoc, List.length_append]; exact o1, hap2.symm⟩
            case measure => simp [intOf]; omega
        · obtain rfl : j = l.length := by omega
          rw [restTo_all] at oR
          have lA := outQ_len q l.length
          have lR := restTo_len l q l.length
          rw [restTo_all] at lR
          obtain ⟨a1, c1, hv1, r1⟩ := owns_row (enc := encI) (l := intsN (outQ l.length q)) (fun _ => rfl) (by omega) oA
          obtain ⟨a2, c2, hv2, r2⟩ := owns_row (enc := encI) (l := restQ l q) (fun _ => rfl) (by omega) oR
          subst hv1
          subst hv2
          have gX := gW.tr gV
          have rB2 := rB.grow gV
          have hcl := fun d hd => HCl.out q d a2 c2 wr hd r2
          have hbe := HBE.out
          have hbb := HBB.out
          obtain ⟨OA, hOA⟩ : ∃ L, intsN (outQ l.length q) = L := ⟨_, rfl⟩
          obtain ⟨RQ, hRQ⟩ : ∃ L, restQ l q = L := ⟨_, rfl⟩
          rw [hOA] at r1 hbe ⊢
          rw [hRQ] at hbe hcl ⊢
          clear hjt hj oA oR hap lA lR gV rB r2
          cases hc : closeB off spread RQ with
          | false =>
            have hcl' := Lib.hid (hcl false hc)
            rw [hc, Bool.false_and, if_neg (by decide)] at hbe
            have HE2 := Lib.hid hbe
            have HB2 := Lib.hid hbb
            clear hc hcl hbe hbb hOA hRQ
            obtain ⟨F, hF⟩ : ∃ F, (bestO off spread l k).isSome = F := ⟨_, rfl⟩
            rw [hF]
            have HF := Lib.hid hF
            clear hF
            go_wp2_with (go_at_call 68; refine hcl'.out.mono ?_; rintro e w3 ⟨rfl, g3⟩)
            go_roundw
            case rel => exact Lib.hid ⟨k + 1, ba, bc, Bs, by omega, by go_num, rfl, by rw [HE2.out, HF.out], by rw [HE2.out]; exact HB2.out, rB2.grow g3, gX.tr g3⟩
            case measure => simp [intOf]; omega
          | true =>
            have hcl' := Lib.hid (hcl true hc)
            rw [hc, Bool.true_and] at hbe
            cases hb : bestO off spread l k with
            | none =>
              rw [hb, if_pos rfl] at hbe
              have HE2 := Lib.hid hbe
              clear hc hcl hbe hbb hOA hRQ hb
              simp only [Option.isSome_none]
              go_wp2_with (go_at_call 68; refine hcl'.out.mono ?_; rintro e w3 ⟨rfl, g3⟩)
              go_roundw
              case rel => exact Lib.hid ⟨k + 1, a1, c1, OA, by omega, by go_num, rfl, by rw [HE2.out]; rfl, by rw [HE2.out]; rfl, r1.grow g3, gX.tr g3⟩
              case measure => simp [intOf]; omega
            | some b =>
              rw [hb] at hbe hbb
              have hbB : b = Bs := hbb
              rw [hbB] at hbe
              replace hbe : bestO off spread l (k + 1) = if lessI OA Bs = true then some OA else some Bs := hbe
              simp only [Option.isSome_some]
              have hle := fun W (g : Gr wr W) => refLess_any OA Bs a1 ba c1 bc W (r1.grow g) (rB2.grow g)
              cases hd : lessI OA Bs with
              | true =>
                rw [hd] at hbe hle
                rw [if_pos rfl] at hbe
                have HE2 := Lib.hid hbe
                have HLe := Lib.hid hle
                clear hc hcl hbe hbb hOA hRQ hb hd hle hbB
                go_wp2_with (first
                  | (go_at_call 68; refine hcl'.out.mono ?_; rintro e w3 ⟨rfl, g3⟩)
                  | (go_at_call 69; refine (HLe.out _ g3).mono ?_; rintro e w4 ⟨rfl, g4⟩))
                go_roundw
                case rel => exact Lib.hid ⟨k + 1, a1, c1, OA, by omega, by go_num, rfl, by rw [HE2.out]; rfl, by rw [HE2.out]; rfl, r1.grow (g3.tr g4), gX.tr (g3.tr g4)⟩
                case measure => simp [intOf]; omega
              | false =>
                rw [hd] at hbe hle
                rw [if_neg (by decide)] at hbe
                have HE2 := Lib.hid hbe
                have HB3 := Lib.hid hbB
                have HLe := Lib.hid hle
                clear hc hcl hbe hbb hOA hRQ hb hd hle hbB
                go_wp2_with (first
                  | (go_at_call 68; refine hcl'.out.mono ?_; rintro e w3 ⟨rfl, g3⟩)
                  | (go_at_call 69; refine (HLe.out _ g3).mono ?_; rintro e w4 ⟨rfl, g4⟩))
                go_roundw
                case rel => exact Lib.hid ⟨k + 1, ba, bc, Bs, by omega, by go_num, rfl, by rw [HE2.out]; rfl, by rw [HE2.out]; rfl, rB2.grow (g3.tr g4), gX.tr (g3.tr g4)⟩
                case measure => simp [intOf]; omega
    · obtain rfl : k = N := by omega
      have hB2 : intsN (oddTo off spread l l.length) = Bs := by
        have := HBO.out
        rw [HN.out] at this
        rw [this] at hB
        exact hB
      have HB2 := Lib.hid hB2
      clear hB2 hB hlt hk
      obtain ⟨F, hF⟩ : ∃ F, (bestO off spread l k).isSome = F := ⟨_, rfl⟩
      rw [hF]
      clear hF
      go_wp2
      go_ret
      exact ⟨ba, bc, by rw [HB2.out]; rfl, by rw [HB2.out]; exact rB, gW⟩

end Go.Proofs.Ytjdeojpapdphoaa

namespace Go.Proofs.Ytjdeojpapdphoaa
set_option linter.unusedVariables false
set_option linter.unusedSimpArgs false
open Go.RowKit

set_option maxRecDepth 100000 in
set_option maxHeartbeats 8000000 in
theorem refDecide_any (n : Nat) (me lo ba off : Int) (l : List Int) (n1 : 1 ≤ n) (n2 : n ≤ 20) (m0 : 0 ≤ me) (m1 : me ≤ 100000) (o0 : 0 ≤ off) (o1 : off ≤ 1000) (hl : l.length ≤ 100) (hB : ∀ r ∈ l, 0 ≤ r ∧ r ≤ 100000) (a : Option Addr) (cap : Nat) (w : World) (hr : IRow w a l) :
    Calls Try.prog 23 #[.agg #[.int .i64 (n : Int), .int .i64 me, .int .i64 lo, .int .i64 ba], .slice a l.length cap, .int .i64 off] w fun e w' => e = .returned (.int .i64 (stateL (n : Int) me lo ba (truthsL n off l))) ∧ Gr w w' := by
  have gg := Gr.al w (.cells #[.int .i64 (n : Int), .int .i64 me, .int .i64 lo, .int .i64 ba] 23)
  have hb := Box.new w [.int .i64 (n : Int), .int .i64 me, .int .i64 lo, .int .i64 ba] 23 w.heap.size rfl
  have HB := Lib.hid hB
  clear hB
  go_enter Try.func23, Try.ntmps23
  go_upto_region 1 with fail
  refine wp_abs (fun U => Gr w U ∧ Box U w.heap.size [.int .i64 (n : Int), .int .i64 me, .int .i64 lo, .int .i64 ba]) ⟨gg, hb⟩ ?_
  clear gg hb
  rintro U ⟨gg, hb⟩
  go_upto_region 2 with fail
  have oA := owns_keep (owns_empty U 3 1) (Gr.al _ (.cells #[] 3))
  have oR := owns_base (owns_empty (U.alloc (.cells #[] 3)) 3 1) (show U.heap.size ≤ (U.alloc (.cells #[] 3)).heap.size by simp)
  have gU := (Gr.al U (.cells #[] 3)).tr (Gr.al _ (.cells #[] 3))
  have hap0 : Apart (.slice (some ⟨U.heap.size, 0, none⟩) 0 0) (.slice (some ⟨(U.alloc (.cells #[] 3)).heap.size, 0, none⟩) 0 0) := Apart.lit (by simp)
  rw [show (U.alloc (.cells #[] 3)).heap.size = U.heap.size + 1 by simp] at oR hap0
  obtain ⟨B0, hB0⟩ : ∃ B0, B0 = U.heap.size := ⟨_, rfl⟩
  have hB1 : U.heap.size ≤ B0 ∧ B0 ≤ U.heap.size := by omega
  rw [← hB0] at oA oR hap0 ⊢
  clear hB0
  obtain ⟨i0, hi, hz0, hz1, hz2⟩ := info_parts infoInt
  refine wp_abs (fun V => Gr U V ∧ V.ownsRow B0 3 1 (.slice (some ⟨B0, 0, none⟩) 0 0) 0 [] ∧ V.ownsRow B0 3 1 (.slice (some ⟨B0 + 1, 0, none⟩) 0 0) 0 []) ⟨gU, oA, oR⟩ ?_
  clear gU oA oR
  rintro V ⟨gU, oA, oR⟩
  refine (show (∀ s : Nat → Value, Code.wp Try.prog _ _ ⟨#[s 0, .slice a l.length cap, .int .i64 off, .pointer (some ⟨w.heap.size, 0, none⟩), s 4, s 5, s 6, .slice (some ⟨B0, 0, none⟩) 0 0, .slice (some ⟨B0 + 1, 0, none⟩) 0 0, undef, undef, s 11, s 12, undef, undef, undef, undef, undef, undef, undef, undef, undef, undef, undef, undef, undef, undef, undef, undef, undef, undef, undef, undef, undef, undef, undef, undef, undef, undef, undef, undef, undef, undef, undef, undef, undef, undef], []⟩ _) → _ from fun h => h ((fun l : List Value => fun i => l.getD i undef) [_, undef, undef, undef, _, _, _, undef, undef, undef, undef, _, _])) ?_
  intro s
  dsimp only
  go_wp2
  go_loopw [9, 7, 8] (fun i s t wr => Hid (∃ k : Nat, k ≤ n ∧ i = .int .i64 k ∧ Gr U wr ∧ wr.ownsRow B0 3 1 s k ((endsL false off l k).flatMap encI) ∧ wr.ownsRow B0 3 1 t k ((endsL true off l k).flatMap encI) ∧ Apart s t)) (fun i _ _ _ => n - (intOf i).toNat)
  case atStart => exact Lib.hid ⟨0, Nat.zero_le _, rfl, gU, oA, oR, hap0⟩
  case round =>
    clear gU oA oR hap0
    obtain ⟨k, hk, rfl, gW, oA, oR, hap⟩ := hrel.out
    clear hrel
    by_cases hlt : k < n
    · obtain ⟨lw, hw, htr⟩ : ∃ a b, truthAt off l k = (a, b) := ⟨_, _, rfl⟩
      have HA := Lib.hid (show endsL false off l (k + 1) = endsL false off l k ++ [lw] by rw [endsL_succ, htr]; rfl)
      have HH := Lib.hid (show endsL true off l (k + 1) = endsL true off l k ++ [hw] by rw [endsL_succ, htr]; rfl)
      obtain ⟨q0, q1, q2, q3⟩ := (hb.keep gW).c4'
      by_cases hx : k < l.length
      · obtain ⟨x, hxx⟩ : ∃ x, l[k]? = some x := ⟨l[k], by simp [hx]⟩
        obtain ⟨x0, x1⟩ := HB.out x (List.mem_of_getElem? hxx)
        obtain ⟨e1, e2⟩ : max 0 (x - off) = lw ∧ min 100000 (x + off) = hw := by
          have : (max 0 (x - off), min 100000 (x + off)) = (lw, hw) := by rw [← htr]; unfold truthAt; rw [hxx]
          injection this with e1 e2
          exact ⟨e1, e2⟩
        have HTR := Lib.hid (fun W => (show Calls Try.prog 64 #[.int .i64 x, .int .i64 off] W fun e w' => e = .returned (.agg #[.int .i64 lw, .int .i64 hw]) ∧ Gr W w' by rw [← e1, ← e2]; exact refTruth_any x off x0 x1 o0 o1 W))
        obtain ⟨b1, of1, rfl, _, cx⟩ := IRow.get (hr.grow (gg.tr gW)) hxx
        have cx2 := (Gr.al wr (.cells #[.int .i64 0, .int .i64 100000] 45)).keep cx
        have oX0 := Own.new wr [.int .i64 0, .int .i64 100000] 45 wr.heap.size rfl
        clear hxx htr e1 e2
        go_upto_region 8 with (go_at_call 64; refine (HTR.out _).mono ?_; rintro e w2 ⟨rfl, g2⟩; have oX1 := oX0.keep g2; (obtain ⟨t0, t1⟩ := oX1.1.c2); have f0 := oX1.2 0; have f1 := oX1.2 1)
        have gX := (((Gr.al wr (.cells #[.int .i64 0, .int .i64 100000] 45)).tr g2).setCell (p := ⟨wr.heap.size, 0, none⟩) (Nat.le_refl wr.heap.size) (.int .i64 lw)).setCell (p := ⟨wr.heap.size, 1, none⟩) (Nat.le_refl wr.heap.size) (.int .i64 hw)
        have oX := ((oX1.set (i := 0) (v := .int .i64 lw) (by simp)).set (i := 1) (v := .int .i64 hw) (by simp)).1
        clear oX0 oX1 t0 t1 f0 f1 cx cx2 HTR
        obtain ⟨D, hD⟩ : ∃ D, D = wr.heap.size := ⟨_, rfl⟩
        rw [← hD] at oX ⊢
        have gX : Gr wr ((w2.setCell ⟨D, 0, none⟩ (.int .i64 lw)).setCell ⟨D, 1, none⟩ (.int .i64 hw)) := by subst hD; exact gX
        clear q0 q1 q2 q3
        have k1 : k + 1 ≤ maxLen := by unfold maxLen; omega
        have k2 : (k + 1) * 8 ≤ 140737488355328 := by omega
        have hsD : ∀ b, u7.ownBlock = some b → B0 ≤ b ∧ b < D := fun b e => by have := oA.lt b e; omega
        have htD : ∀ b, u8.ownBlock = some b → B0 ≤ b ∧ b < D := fun b e => by have := oR.lt b e; omega
        have hD1 : wr.heap.size ≤ D ∧ D ≤ wr.heap.size := by omega
        clear hD
        refine wp_abs (fun X => Gr wr X ∧ Box X D [.int .i64 lw, .int .i64 hw]) ⟨gX, oX⟩ ?_
        clear gX oX
        rintro X ⟨gX, hbx⟩
        have oA := owns_keep oA gX
        have oR := owns_keep oR gX
        have gX := gW.tr gX
        refine (show (∀ y : Nat → Value, Code.wp Try.prog _ _ ⟨#[s 0, .slice (some ⟨b1, of1, none⟩) l.length cap, .int .i64 off, .pointer (some ⟨w.heap.size, 0, none⟩), s 4, s 5, s 6, u7, u8, .int .i64 (k : Int), .pointer (some ⟨D, 0, none⟩), s 11, s 12, y 13, y 14, y 15, y 16, y 17, y 18, y 19, y 20, y 21, y 22, y 23, y 24, y 25, y 26, y 27, y 28, y 29, y 30, y 31, y 32, y 33, y 34, y 35, y 36, y 37, y 38, y 39, undef, undef, undef, undef, undef, undef, undef], []⟩ _) → _ from fun h => h ((fun l : List Value => fun i => l.getD i undef) [undef, undef, undef, undef, undef, undef, undef, undef, undef, undef, undef, undef, undef, _, _, _, _, _, _, _, _, _, _, _, _, _, _, _, _, _, _, _, _, _, _, _, _, _, _, _])) ?_
        intro y
        dsimp only
        refine wp_region_two (fun b => b < D) 10 4 9 [(2, 1), (3, 2), (4, 0), (4, 3), (7, 6), (8, 7), (9, 5), (9, 8), (9, 4)] (fun x => ⟨#[s 0, .slice (some ⟨b1, of1, none⟩) l.length cap, .int .i64 off, .pointer (some ⟨w.heap.size, 0, none⟩), s 4, s 5, s 6, u7, u8, .int .i64 (k : Int), .pointer (some ⟨D, 0, none⟩), s 11, s 12, y 13, y 14, y 15, y 16, y 17, y 18, y 19, y 20, y 21, y 22, y 23, y 24, y 25, y 26, y 27, y 28, y 29, x 0, x 1, x 2, x 3, x 4, x 5, x 6, x 7, x 8, x 9, undef, undef, undef, undef, undef, undef, undef], []⟩) (fun i => [y 30, y 31, y 32, y 33, y 34, y 35, y 36, y 37, y 38, y 39].getD i undef) [fun _ x => x = u7, fun _ x => x = .pointer (some ⟨D, 0, none⟩), fun _ x => x = .int .i64 lw, fun v x => ∃ b, x = .slice (some ⟨b, 0, none⟩) 1 1 ∧ D ≤ b ∧ Box v b [.int .i64 lw], fun _ _ => True, fun _ x => x = u8, fun _ x => x = .pointer (some ⟨D, 1, none⟩), fun _ x => x = .int .i64 hw, fun v x => ∃ b, x = .slice (some ⟨b, 0, none⟩) 1 1 ∧ D ≤ b ∧ Box v b [.int .i64 hw], fun _ _ => True] (fun v => Box v D [.int .i64 lw, .int .i64 hw]) (fun v => Gr U v ∧ v.ownsRow B0 3 1 u7 k ((endsL false off l k).flatMap encI) ∧ v.ownsRow B0 3 1 u8 k ((endsL true off l k).flatMap encI)) (fun v x => Gr U v ∧ v.ownsRow B0 3 1 x (k + 1) ((endsL false off l (k + 1)).flatMap encI) ∧ v.ownsRow B0 3 1 u8 k ((endsL true off l k).flatMap encI) ∧ Apart x u8) (fun v x y => Gr U v ∧ v.ownsRow B0 3 1 x (k + 1) ((endsL false off l (k + 1)).flatMap encI) ∧ v.ownsRow B0 3 1 y (k + 1) ((endsL true off l (k + 1)).flatMap encI) ∧ Apart x y) (by rfl) (by kernel_rfl) (by kernel_rfl) (by kernel_rfl) (by simp) (by omega) (by omega) (by omega) (staysZ_cons (StaysZ.eq _ _) (staysZ_cons (StaysZ.eq _ _) (staysZ_cons (StaysZ.eq _ _) (staysZ_cons (show StaysZ (fun b => b < D) (fun v x => ∃ b, x = .slice (some ⟨b, 0, none⟩) 1 1 ∧ D ≤ b ∧ Box v b [.int .i64 lw]) from fun v v' x g ⟨b, h, h1, h2⟩ => ⟨b, h, h1, h2.kx g (by omega)⟩) (staysZ_cons (fun _ _ _ _ _ => trivial) (staysZ_cons (StaysZ.eq _ _) (staysZ_cons (StaysZ.eq _ _) (staysZ_cons (StaysZ.eq _ _) (staysZ_cons (show StaysZ (fun b => b < D) (fun v x => ∃ b, x = .slice (some ⟨b, 0, none⟩) 1 1 ∧ D ≤ b ∧ Box v b [.int .i64 hw]) from fun v v' x g ⟨b, h, h1, h2⟩ => ⟨b, h, h1, h2.kx g (by omega)⟩) (staysZ_cons (fun _ _ _ _ _ => trivial) staysZ_nil))))))))))
          (fun v v' g h => h.kx g (by omega)) (fun v v' g h => ⟨h.1.tr g, owns_keep h.2.1 g, owns_keep h.2.2 g⟩) (fun v v' x g h => ⟨h.1.tr g, owns_keep h.2.1 g, owns_keep h.2.2.1 g, h.2.2.2⟩) (fun v v' x y g h => ⟨h.1.tr g, owns_keep h.2.1 g, owns_keep h.2.2.1 g, h.2.2.2⟩) (hbx.keep (Gr.dr _)) ⟨gX.tr (Gr.dr _), owns_keep oA (Gr.dr _), owns_keep oR (Gr.dr _)⟩ ?stepA ?ppA ?qqA ?finA
        case stepA =>
          rintro i hi np nq x v hc hd K hK
          have hi8 : i = 0 ∨ i = 1 ∨ i = 2 ∨ i = 3 ∨ i = 5 ∨ i = 6 ∨ i = 7 ∨ i = 8 := by omega
          rcases hi8 with rfl | rfl | rfl | rfl | rfl | rfl | rfl | rfl
          · show wpOp Try.prog _ _ 0 K (⟨#[_, _, _, _, _, _, _, _, _, _, _, _, _, _, _, _, _, _, _, _, _, _, _, _, _, _, _, _, _, _, x 0, x 1, x 2, x 3, x 4, x 5, x 6, x 7, x 8, x 9, _, _, _, _, _, _, _], []⟩ : Act) v
            refine wpOp_step rfl (fun K' hK' => ?_)
            go_simp
            exact hK' _ _ (hK _ _ (Below.refl _ _) (at_of rfl (rfl)))
          · show wpOp Try.prog _ _ 1 K (⟨#[_, _, _, _, _, _, _, _, _, _, _, _, _, _, _, _, _, _, _, _, _, _, _, _, _, _, _, _, _, _, x 0, x 1, x 2, x 3, x 4, x 5, x 6, x 7, x 8, x 9, _, _, _, _, _, _, _], []⟩ : Act) v
            refine wpOp_step rfl (fun K' hK' => ?_)
            go_simp
            exact hK' _ _ (hK _ _ (Below.refl _ _) (at_of rfl (rfl)))
          · obtain ⟨x, rfl⟩ := upd_of (show x 1 = .pointer (some ⟨D, 0, none⟩) from hd 1 _ (by simp) (by decide) (by decide) rfl)
            show wpOp Try.prog _ _ 2 K (⟨#[_, _, _, _, _, _, _, _, _, _, _, _, _, _, _, _, _, _, _, _, _, _, _, _, _, _, _, _, _, _, x 0, .pointer (some ⟨D, 0, none⟩), x 2, x 3, x 4, x 5, x 6, x 7, x 8, x 9, _, _, _, _, _, _, _], []⟩ : Act) v
            have q := hc.2 0 _ rfl
            refine wpOp_step rfl (fun K' hK' => ?_)
            go_simp
            exact hK' _ _ (hK _ _ (Below.refl _ _) (at_of rfl (rfl)))
          · obtain ⟨x, rfl⟩ := upd_of (show x 2 = .int .i64 lw from hd 2 _ (by simp) (by decide) (by decide) rfl)
            show wpOp Try.prog _ _ 3 K (⟨#[_, _, _, _, _, _, _, _, _, _, _, _, _, _, _, _, _, _, _, _, _, _, _, _, _, _, _, _, _, _, x 0, x 1, .int .i64 lw, x 3, x 4, x 5, x 6, x 7, x 8, x 9, _, _, _, _, _, _, _], []⟩ : Act) v
            refine wpOp_step rfl (fun K' hK' => ?_)
            go_simp
            have gA := Gr.al v (.cells (List.toArray [.int .i64 lw]) 3)
            exact hK' _ _ (hK _ _ gA (at_of rfl ⟨v.heap.size, rfl, Nat.le_of_lt hc.1, Box.new v [.int .i64 lw] 3 v.heap.size rfl⟩))
          · show wpOp Try.prog _ _ 5 K (⟨#[_, _, _, _, _, _, _, _, _, _, _, _, _, _, _, _, _, _, _, _, _, _, _, _, _, _, _, _, _, _, x 0, x 1, x 2, x 3, x 4, x 5, x 6, x 7, x 8, x 9, _, _, _, _, _, _, _], []⟩ : Act) v
            refine wpOp_step rfl (fun K' hK' => ?_)
            go_simp
            exact hK' _ _ (hK _ _ (Below.refl _ _) (at_of rfl (rfl)))
          · show wpOp Try.prog _ _ 6 K (⟨#[_, _, _, _, _, _, _, _, _, _, _, _, _, _, _, _, _, _, _, _, _, _, _, _, _, _, _, _, _, _, x 0, x 1, x 2, x 3, x 4, x 5, x 6, x 7, x 8, x 9, _, _, _, _, _, _, _], []⟩ : Act) v
            refine wpOp_step rfl (fun K' hK' => ?_)
            go_simp
            exact hK' _ _ (hK _ _ (Below.refl _ _) (at_of rfl (rfl)))
          · obtain ⟨x, rfl⟩ := upd_of (show x 6 = .pointer (some ⟨D, 1, none⟩) from hd 6 _ (by simp) (by decide) (by decide) rfl)
            show wpOp Try.prog _ _ 7 K (⟨#[_, _, _, _, _, _, _, _, _, _, _, _, _, _, _, _, _, _, _, _, _, _, _, _, _, _, _, _, _, _, x 0, x 1, x 2, x 3, x 4, x 5, .pointer (some ⟨D, 1, none⟩), x 7, x 8, x 9, _, _, _, _, _, _, _], []⟩ : Act) v
            have q := hc.2 1 _ rfl
            refine wpOp_step rfl (fun K' hK' => ?_)
            go_simp
            exact hK' _ _ (hK _ _ (Below.refl _ _) (at_of rfl (rfl)))
          · obtain ⟨x, rfl⟩ := upd_of (show x 7 = .int .i64 hw from hd 7 _ (by simp) (by decide) (by decide) rfl)
            show wpOp Try.prog _ _ 8 K (⟨#[_, _, _, _, _, _, _, _, _, _, _, _, _, _, _, _, _, _, _, _, _, _, _, _, _, _, _, _, _, _, x 0, x 1, x 2, x 3, x 4, x 5, x 6, .int .i64 hw, x 8, x 9, _, _, _, _, _, _, _], []⟩ : Act) v
            refine wpOp_step rfl (fun K' hK' => ?_)
            go_simp
            have gA := Gr.al v (.cells (List.toArray [.int .i64 hw]) 3)
            exact hK' _ _ (hK _ _ gA (at_of rfl ⟨v.heap.size, rfl, Nat.le_of_lt hc.1, Box.new v [.int .i64 hw] 3 v.heap.size rfl⟩))
        case ppA =>
          rintro x v hc ⟨gv, o1, o2⟩ hd K hK
          obtain ⟨x, rfl⟩ := upd_of (show x 0 = u7 from hd 0 _ (by simp) (by decide) (by decide) rfl)
          obtain ⟨b3, e3, hb3, hx3⟩ := hd 3 _ (by simp) (by decide) (by decide) rfl
          obtain ⟨x, rfl⟩ := upd_of (show x 3 = .slice (some ⟨b3, 0, none⟩) 1 1 from e3)
          show wpOp Try.prog _ _ 4 K (⟨#[_, _, _, _, _, _, _, _, _, _, _, _, _, _, _, _, _, _, _, _, _, _, _, _, _, _, _, _, _, _, u7, x 1, x 2, .slice (some ⟨b3, 0, none⟩) 1 1, x 4, x 5, x 6, x 7, x 8, x 9, _, _, _, _, _, _, _], []⟩ : Act) v
          refine wpOp_step rfl (fun K' hK' => ?_)
          refine step_append_lies _ (by rfl) _ _ 24 (by rfl) B0 3 i0 (.int .i64 0) 1 8 Try.underlying24 hi hz0 hz1 hz2 rfl (by decide) u7 k _ (by rfl) o1 ⟨b3, 0, none⟩ 1 1 ([lw].map (fun n => Value.int .i64 n)) (by rfl) (by rfl) (fun j u hu => by have := hx3.2 j u hu; unfold Addr.add; split <;> simp_all) (ints_one _) (by omega) k1 k2 ?_ _ rfl ?_
          · have := gv.size
            omega
          intro g cp w4 o4 hg4 ha4 hl4
          have hkx : Kx (fun b => b < D) v w4 := Kx.grown hg4 (fun r e => .inl (hsD r e).2)
          have gY := gv.grown' o1 (by omega) hg4
          have hap4 : Apart (.slice (some ⟨g, 0, none⟩) (k + 1) cp) u8 := (Apart.after hap.symm ha4 (fun b e => (o2.lt b e).2)).symm
          exact hK' _ _ (hK _ _ hkx ⟨gY, (by rw [HA.out, flat_snoc]; exact o4), owns_apart o2 hg4 hap.symm, hap4⟩)
        case qqA =>
          rintro x v hc ⟨gv, o1, o2, hap1⟩ hd K hK
          obtain ⟨r1, hr1⟩ : ∃ r, x 4 = r := ⟨_, rfl⟩
          rw [hr1] at o1 hap1 hK
          obtain ⟨x, rfl⟩ := upd_of hr1
          obtain ⟨x, rfl⟩ := upd_of (show x 5 = u8 from hd 5 _ (by simp) (by decide) (by decide) rfl)
          obtain ⟨b8, e8, hb8, hx8⟩ := hd 8 _ (by simp) (by decide) (by decide) rfl
          obtain ⟨x, rfl⟩ := upd_of (show x 8 = .slice (some ⟨b8, 0, none⟩) 1 1 from e8)
          show wpOp Try.prog _ _ 9 K (⟨#[_, _, _, _, _, _, _, _, _, _, _, _, _, _, _, _, _, _, _, _, _, _, _, _, _, _, _, _, _, _, x 0, x 1, x 2, x 3, r1, u8, x 6, x 7, .slice (some ⟨b8, 0, none⟩) 1 1, x 9, _, _, _, _, _, _, _], []⟩ : Act) v
          refine wpOp_step rfl (fun K' hK' => ?_)
          refine step_append_lies _ (by rfl) _ _ 24 (by rfl) B0 3 i0 (.int .i64 0) 1 8 Try.underlying24 hi hz0 hz1 hz2 rfl (by decide) u8 k _ (by rfl) o2 ⟨b8, 0, none⟩ 1 1 ([hw].map (fun n => Value.int .i64 n)) (by rfl) (by rfl) (fun j u hu => by have := hx8.2 j u hu; unfold Addr.add; split <;> simp_all) (ints_one _) (by omega) k1 k2 ?_ _ rfl ?_
          · have := gv.size
            omega
          intro g cp w4 o4 hg4 ha4 hl4
          have hkx : Kx (fun b => b < D) v w4 := Kx.grown hg4 (fun r e => .inl (htD r e).2)
          have gY := gv.grown' o2 (by omega) hg4
          have hap4 : Apart r1 (.slice (some ⟨g, 0, none⟩) (k + 1) cp) := Apart.after hap1 ha4 (fun b e => (o1.lt b e).2)
          exact hK' _ _ (hK _ _ hkx ⟨gY, owns_apart o1 hg4 hap1, (by rw [HH.out, flat_snoc]; exact o4), hap4⟩)
        case finA =>
          rintro x v hc ⟨gv, o1, o2, hap1⟩ hd
          clear hd
          obtain ⟨r1, hr1⟩ : ∃ r, x 4 = r := ⟨_, rfl⟩
          obtain ⟨r2, hr2⟩ : ∃ r, x 9 = r := ⟨_, rfl⟩
          rw [hr1, hr2] at hap1
          rw [hr1] at o1
          rw [hr2] at o2
          obtain ⟨x, rfl⟩ := upd_of hr1
          obtain ⟨x, rfl⟩ := upd_of (show x 9 = r2 from by rw [← hr2, upd_ne]; decide)
          show wpList Try.prog _ _ (List.drop 10 _) (⟨#[_, _, _, _, _, _, _, _, _, _, _, _, _, _, _, _, _, _, _, _, _, _, _, _, _, _, _, _, _, _, x 0, x 1, x 2, x 3, r1, x 5, x 6, x 7, x 8, r2, _, _, _, _, _, _, _], []⟩ : Act) v
          simp only [List.drop_succ_cons, List.drop_zero]
          go_wp2
          go_roundw
          case rel => exact Lib.hid ⟨k + 1, by omega, by go_num, gv, o1, o2, hap1⟩
          case measure => simp [intOf]; omega
      · obtain ⟨e1, e2⟩ : 0 = lw ∧ 100000 = hw := by
          have : ((0 : Int), (100000 : Int)) = (lw, hw) := by rw [← htr]; unfold truthAt; rw [List.getElem?_eq_none (by omega)]
          injection this with e1 e2
          exact ⟨e1, e2⟩
        have HE := Lib.hid (And.intro e1 e2)
        clear e1 e2
        go_upto_region 8 with fail
        have gX := Gr.al wr (.cells #[.int .i64 0, .int .i64 100000] 45)
        have oX := Box.new wr [.int .i64 0, .int .i64 100000] 45 wr.heap.size rfl
        obtain ⟨D, hD⟩ : ∃ D, D = wr.heap.size := ⟨_, rfl⟩
        rw [← hD] at oX ⊢
        have oX : Box (wr.alloc (.cells #[.int .i64 0, .int .i64 100000] 45)) D [.int .i64 lw, .int .i64 hw] := by rw [← HE.out.1, ← HE.out.2]; exact oX
        clear HE htr
        clear q0 q1 q2 q3
        have k1 : k + 1 ≤ maxLen := by unfold maxLen; omega
        have k2 : (k + 1) * 8 ≤ 140737488355328 := by omega
        have hsD : ∀ b, u7.ownBlock = some b → B0 ≤ b ∧ b < D := fun b e => by have := oA.lt b e; omega
        have htD : ∀ b, u8.ownBlock = some b → B0 ≤ b ∧ b < D := fun b e => by have := oR.lt b e; omega
        have hD1 : wr.heap.size ≤ D ∧ D ≤ wr.heap.size := by omega
        clear hD
        refine wp_abs (fun X => Gr wr X ∧ Box X D [.int .i64 lw, .int .i64 hw]) ⟨gX, oX⟩ ?_
        clear gX oX
        rintro X ⟨gX, hbx⟩
        have oA := owns_keep oA gX
        have oR := owns_keep oR gX
        have gX := gW.tr gX
        refine (show (∀ y : Nat → Value, Code.wp Try.prog _ _ ⟨#[s 0, .slice a l.length cap, .int .i64 off, .pointer (some ⟨w.heap.size, 0, none⟩), s 4, s 5, s 6, u7, u8, .int .i64 (k : Int), .pointer (some ⟨D, 0, none⟩), s 11, s 12, y 13, y 14, y 15, y 16, y 17, y 18, y 19, y 20, y 21, y 22, y 23, y 24, y 25, y 26, y 27, y 28, y 29, y 30, y 31, y 32, y 33, y 34, y 35, y 36, y 37, y 38, y 39, undef, undef, undef, undef, undef, undef, undef], []⟩ _) → _ from fun h => h ((fun l : List Value => fun i => l.getD i undef) [undef, undef, undef, undef, undef, undef, undef, undef, undef, undef, undef, undef, undef, _, _, _, _, _, _, _, _, _, _, _, _, _, _, _, _, _, _, _, _, _, _, _, _, _, _, _])) ?_
        intro y
        dsimp only
        refine wp_region_two (fun b => b < D) 10 4 9 [(2, 1), (3, 2), (4, 0), (4, 3), (7, 6), (8, 7), (9, 5), (9, 8), (9, 4)] (fun x => ⟨#[s 0, .slice a l.length cap, .int .i64 off, .pointer (some ⟨w.heap.size, 0, none⟩), s 4, s 5, s 6, u7, u8, .int .i64 (k : Int), .pointer (some ⟨D, 0, none⟩), s 11, s 12, y 13, y 14, y 15, y 16, y 17, y 18, y 19, y 20, y 21, y 22, y 23, y 24, y 25, y 26, y 27, y 28, y 29, x 0, x 1, x 2, x 3, x 4, x 5, x 6, x 7, x 8, x 9, undef, undef, undef, undef, undef, undef, undef], []⟩) (fun i => [y 30, y 31, y 32, y 33, y 34, y 35, y 36, y 37, y 38, y 39].getD i undef) [fun _ x => x = u7, fun _ x => x = .pointer (some ⟨D, 0, none⟩), fun _ x => x = .int .i64 lw, fun v x => ∃ b, x = .slice (some ⟨b, 0, none⟩) 1 1 ∧ D ≤ b ∧ Box v b [.int .i64 lw], fun _ _ => True, fun _ x => x = u8, fun _ x => x = .pointer (some ⟨D, 1, none⟩), fun _ x => x = .int .i64 hw, fun v x => ∃ b, x = .slice (some ⟨b, 0, none⟩) 1 1 ∧ D ≤ b ∧ Box v b [.int .i64 hw], fun _ _ => True] (fun v => Box v D [.int .i64 lw, .int .i64 hw]) (fun v => Gr U v ∧ v.ownsRow B0 3 1 u7 k ((endsL false off l k).flatMap encI) ∧ v.ownsRow B0 3 1 u8 k ((endsL true off l k).flatMap encI)) (fun v x => Gr U v ∧ v.ownsRow B0 3 1 x (k + 1) ((endsL false off l (k + 1)).flatMap encI) ∧ v.ownsRow B0 3 1 u8 k ((endsL true off l k).flatMap encI) ∧ Apart x u8) (fun v x y => Gr U v ∧ v.ownsRow B0 3 1 x (k + 1) ((endsL false off l (k + 1)).flatMap encI) ∧ v.ownsRow B0 3 1 y (k + 1) ((endsL true off l (k + 1)).flatMap encI) ∧ Apart x y) (by rfl) (by kernel_rfl) (by kernel_rfl) (by kernel_rfl) (by simp) (by omega) (by omega) (by omega) (staysZ_cons (StaysZ.eq _ _) (staysZ_cons (StaysZ.eq _ _) (staysZ_cons (StaysZ.eq _ _) (staysZ_cons (show StaysZ (fun b => b < D) (fun v x => ∃ b, x = .slice (some ⟨b, 0, none⟩) 1 1 ∧ D ≤ b ∧ Box v b [.int .i64 lw]) from fun v v' x g ⟨b, h, h1, h2⟩ => ⟨b, h, h1, h2.kx g (by omega)⟩) (staysZ_cons (fun _ _ _ _ _ => trivial) (staysZ_cons (StaysZ.eq _ _) (staysZ_cons (StaysZ.eq _ _) (staysZ_cons (StaysZ.eq _ _) (staysZ_cons (show StaysZ (fun b => b < D) (fun v x => ∃ b, x = .slice (some ⟨b, 0, none⟩) 1 1 ∧ D ≤ b ∧ Box v b [.int .i64 hw]) from fun v v' x g ⟨b, h, h1, h2⟩ => ⟨b, h, h1, h2.kx g (by omega)⟩) (staysZ_cons (fun _ _ _ _ _ => trivial) staysZ_nil))))))))))
          (fun v v' g h => h.kx g (by omega)) (fun v v' g h => ⟨h.1.tr g, owns_keep h.2.1 g, owns_keep h.2.2 g⟩) (fun v v' x g h => ⟨h.1.tr g, owns_keep h.2.1 g, owns_keep h.2.2.1 g, h.2.2.2⟩) (fun v v' x y g h => ⟨h.1.tr g, owns_keep h.2.1 g, owns_keep h.2.2.1 g, h.2.2.2⟩) (hbx.keep (Gr.dr _)) ⟨gX.tr (Gr.dr _), owns_keep oA (Gr.dr _), owns_keep oR (Gr.dr _)⟩ ?stepB ?ppB ?qqB ?finB
        case stepB =>
          rintro i hi np nq x v hc hd K hK
          have hi8 : i = 0 ∨ i = 1 ∨ i = 2 ∨ i = 3 ∨ i = 5 ∨ i = 6 ∨ i = 7 ∨ i = 8 := by omega
          rcases hi8 with rfl | rfl | rfl | rfl | rfl | rfl | rfl | rfl
          · show wpOp Try.prog _ _ 0 K (⟨#[_, _, _, _, _, _, _, _, _, _, _, _, _, _, _, _, _, _, _, _, _, _, _, _, _, _, _, _, _, _, x 0, x 1, x 2, x 3, x 4, x 5, x 6, x 7, x 8, x 9, _, _, _, _, _, _, _], []⟩ : Act) v
            refine wpOp_step rfl (fun K' hK' => ?_)
            go_simp
            exact hK' _ _ (hK _ _ (Below.refl _ _) (at_of rfl (rfl)))
          · show wpOp Try.prog _ _ 1 K (⟨#[_, _, _, _, _, _, _, _, _, _, _, _, _, _, _, _, _, _, _, _, _, _, _, _, _, _, _, _, _, _, x 0, x 1, x 2, x 3, x 4, x 5, x 6, x 7, x 8, x 9, _, _, _, _, _, _, _], []⟩ : Act) v
            refine wpOp_step rfl (fun K' hK' => ?_)
            go_simp
            exact hK' _ _ (hK _ _ (Below.refl _ _) (at_of rfl (rfl)))
          · obtain ⟨x, rfl⟩ := upd_of (show x 1 = .pointer (some ⟨D, 0, none⟩) from hd 1 _ (by simp) (by decide) (by decide) rfl)
            show wpOp Try.prog _ _ 2 K (⟨#[_, _, _, _, _, _, _, _, _, _, _, _, _, _, _, _, _, _, _, _, _, _, _, _, _, _, _, _, _, _, x 0, .pointer (some ⟨D, 0, none⟩), x 2, x 3, x 4, x 5, x 6, x 7, x 8, x 9, _, _, _, _, _, _, _], []⟩ : Act) v
            have q := hc.2 0 _ rfl
            refine wpOp_step rfl (fun K' hK' => ?_)
            go_simp
            exact hK' _ _ (hK _ _ (Below.refl _ _) (at_of rfl (rfl)))
          · obtain ⟨x, rfl⟩ := upd_of (show x 2 = .int .i64 lw from hd 2 _ (by simp) (by decide) (by decide) rfl)
            show wpOp Try.prog _ _ 3 K (⟨#[_, _, _, _, _, _, _, _, _, _, _, _, _, _, _, _, _, _, _, _, _, _, _, _, _, _, _, _, _, _, x 0, x 1, .int .i64 lw, x 3, x 4, x 5, x 6, x 7, x 8, x 9, _, _, _, _, _, _, _], []⟩ : Act) v
            refine wpOp_step rfl (fun K' hK' => ?_)
            go_simp
            have gA := Gr.al v (.cells (List.toArray [.int .i64 lw]) 3)
            exact hK' _ _ (hK _ _ gA (at_of rfl ⟨v.heap.size, rfl, Nat.le_of_lt hc.1, Box.new v [.int .i64 lw] 3 v.heap.size rfl⟩))
          · show wpOp Try.prog _ _ 5 K (⟨#[_, _, _, _, _, _, _, _, _, _, _, _, _, _, _, _, _, _, _, _, _, _, _, _, _, _, _, _, _, _, x 0, x 1, x 2, x 3, x 4, x 5, x 6, x 7, x 8, x 9, _, _, _, _, _, _, _], []⟩ : Act) v
            refine wpOp_step rfl (fun K' hK' => ?_)
            go_simp
            exact hK' _ _ (hK _ _ (Below.refl _ _) (at_of rfl (rfl)))
          · show wpOp Try.prog _ _ 6 K (⟨#[_, _, _, _, _, _, _, _, _, _, _, _, _, _, _, _, _, _, _, _, _, _, _, _, _, _, _, _, _, _, x 0, x 1, x 2, x 3, x 4, x 5, x 6, x 7, x 8, x 9, _, _, _, _, _, _, _], []⟩ : Act) v
            refine wpOp_step rfl (fun K' hK' => ?_)
            go_simp
            exact hK' _ _ (hK _ _ (Below.refl _ _) (at_of rfl (rfl)))
          · obtain ⟨x, rfl⟩ := upd_of (show x 6 = .pointer (some ⟨D, 1, none⟩) from hd 6 _ (by simp) (by decide) (by decide) rfl)
            show wpOp Try.prog _ _ 7 K (⟨#[_, _, _, _, _, _, _, _, _, _, _, _, _, _, _, _, _, _, _, _, _, _, _, _, _, _, _, _, _, _, x 0, x 1, x 2, x 3, x 4, x 5, .pointer (some ⟨D, 1, none⟩), x 7, x 8, x 9, _, _, _, _, _, _, _], []⟩ : Act) v
            have q := hc.2 1 _ rfl
            refine wpOp_step rfl (fun K' hK' => ?_)
            go_simp
            exact hK' _ _ (hK _ _ (Below.refl _ _) (at_of rfl (rfl)))
          · obtain ⟨x, rfl⟩ := upd_of (show x 7 = .int .i64 hw from hd 7 _ (by simp) (by decide) (by decide) rfl)
            show wpOp Try.prog _ _ 8 K (⟨#[_, _, _, _, _, _, _, _, _, _, _, _, _, _, _, _, _, _, _, _, _, _, _, _, _, _, _, _, _, _, x 0, x 1, x 2, x 3, x 4, x 5, x 6, .int .i64 hw, x 8, x 9, _, _, _, _, _, _, _], []⟩ : Act) v
            refine wpOp_step rfl (fun K' hK' => ?_)
            go_simp
            have gA := Gr.al v (.cells (List.toArray [.int .i64 hw]) 3)
            exact hK' _ _ (hK _ _ gA (at_of rfl ⟨v.heap.size, rfl, Nat.le_of_lt hc.1, Box.new v [.int .i64 hw] 3 v.heap.size rfl⟩))
        case ppB =>
          rintro x v hc ⟨gv, o1, o2⟩ hd K hK
          obtain ⟨x, rfl⟩ := upd_of (show x 0 = u7 from hd 0 _ (by simp) (by decide) (by decide) rfl)
          obtain ⟨b3, e3, hb3, hx3⟩ := hd 3 _ (by simp) (by decide) (by decide) rfl
          obtain ⟨x, rfl⟩ := upd_of (show x 3 = .slice (some ⟨b3, 0, none⟩) 1 1 from e3)
          show wpOp Try.prog _ _ 4 K (⟨#[_, _, _, _, _, _, _, _, _, _, _, _, _, _, _, _, _, _, _, _, _, _, _, _, _, _, _, _, _, _, u7, x 1, x 2, .slice (some ⟨b3, 0, none⟩) 1 1, x 4, x 5, x 6, x 7, x 8, x 9, _, _, _, _, _, _, _], []⟩ : Act) v
          refine wpOp_step rfl (fun K' hK' => ?_)
          refine step_append_lies _ (by rfl) _ _ 24 (by rfl) B0 3 i0 (.int .i64 0) 1 8 Try.underlying24 hi hz0 hz1 hz2 rfl (by decide) u7 k _ (by rfl) o1 ⟨b3, 0, none⟩ 1 1 ([lw].map (fun n => Value.int .i64 n)) (by rfl) (by rfl) (fun j u hu => by have := hx3.2 j u hu; unfold Addr.add; split <;> simp_all) (ints_one _) (by omega) k1 k2 ?_ _ rfl ?_
          · have := gv.size
            omega
          intro g cp w4 o4 hg4 ha4 hl4
          have hkx : Kx (fun b => b < D) v w4 := Kx.grown hg4 (fun r e => .inl (hsD r e).2)
          have gY := gv.grown' o1 (by omega) hg4
          have hap4 : Apart (.slice (some ⟨g, 0, none⟩) (k + 1) cp) u8 := (Apart.after hap.symm ha4 (fun b e => (o2.lt b e).2)).symm
          exact hK' _ _ (hK _ _ hkx ⟨gY, (by rw [HA.out, flat_snoc]; exact o4), owns_apart o2 hg4 hap.symm, hap4⟩)
        case qqB =>
          rintro x v hc ⟨gv, o1, o2, hap1⟩ hd K hK
          obtain ⟨r1, hr1⟩ : ∃ r, x 4 = r := ⟨_, rfl⟩
          rw [hr1] at o1 hap1 hK
          obtain ⟨x, rfl⟩ := upd_of hr1
          obtain ⟨x, rfl⟩ := upd_of (show x 5 = u8 from hd 5 _ (by simp) (by decide) (by decide) rfl)
          obtain ⟨b8, e8, hb8, hx8⟩ := hd 8 _ (by simp) (by decide) (by decide) rfl
          obtain ⟨x, rfl⟩ := upd_of (show x 8 = .slice (some ⟨b8, 0, none⟩) 1 1 from e8)
          show wpOp Try.prog _ _ 9 K (⟨#[_, _, _, _, _, _, _, _, _, _, _, _, _, _, _, _, _, _, _, _, _, _, _, _, _, _, _, _, _, _, x 0, x 1, x 2, x 3, r1, u8, x 6, x 7, .slice (some ⟨b8, 0, none⟩) 1 1, x 9, _, _, _, _, _, _, _], []⟩ : Act) v
          refine wpOp_step rfl (fun K' hK' => ?_)
          refine step_append_lies _ (by rfl) _ _ 24 (by rfl) B0 3 i0 (.int .i64 0) 1 8 Try.underlying24 hi hz0 hz1 hz2 rfl (by decide) u8 k _ (by rfl) o2 ⟨b8, 0, none⟩ 1 1 ([hw].map (fun n => Value.int .i64 n)) (by rfl) (by rfl) (fun j u hu => by have := hx8.2 j u hu; unfold Addr.add; split <;> simp_all) (ints_one _) (by omega) k1 k2 ?_ _ rfl ?_
          · have := gv.size
            omega
          intro g cp w4 o4 hg4 ha4 hl4
          have hkx : Kx (fun b => b < D) v w4 := Kx.grown hg4 (fun r e => .inl (htD r e).2)
          have gY := gv.grown' o2 (by omega) hg4
          have hap4 : Apart r1 (.slice (some ⟨g, 0, none⟩) (k + 1) cp) := Apart.after hap1 ha4 (fun b e => (o1.lt b e).2)
          exact hK' _ _ (hK _ _ hkx ⟨gY, owns_apart o1 hg4 hap1, (by rw [HH.out, flat_snoc]; exact o4), hap4⟩)
        case finB =>
          rintro x v hc ⟨gv, o1, o2, hap1⟩ hd
          clear hd
          obtain ⟨r1, hr1⟩ : ∃ r, x 4 = r := ⟨_, rfl⟩
          obtain ⟨r2, hr2⟩ : ∃ r, x 9 = r := ⟨_, rfl⟩
          rw [hr1, hr2] at hap1
          rw [hr1] at o1
          rw [hr2] at o2
          obtain ⟨x, rfl⟩ := upd_of hr1
          obtain ⟨x, rfl⟩ := upd_of (show x 9 = r2 from by rw [← hr2, upd_ne]; decide)
          show wpList Try.prog _ _ (List.drop 10 _) (⟨#[_, _, _, _, _, _, _, _, _, _, _, _, _, _, _, _, _, _, _, _, _, _, _, _, _, _, _, _, _, _, x 0, x 1, x 2, x 3, r1, x 5, x 6, x 7, x 8, r2, _, _, _, _, _, _, _], []⟩ : Act) v
          simp only [List.drop_succ_cons, List.drop_zero]
          go_wp2
          go_roundw
          case rel => exact Lib.hid ⟨k + 1, by omega, by go_num, gv, o1, o2, hap1⟩
          case measure => simp [intOf]; omega
    · obtain rfl : n = k := by omega
      clear hlt hk
      have e1 := endsL_len false off l n
      have e2 := endsL_len true off l n
      obtain ⟨ra, rc, hva, rA, _, _⟩ := owns_row_cap (enc := encI) (l := endsL false off l n) (fun _ => rfl) (by omega) (by rw [e1]; exact oA)
      obtain ⟨rb, rd, hvb, rB, _, _⟩ := owns_row_cap (enc := encI) (l := endsL true off l n) (fun _ => rfl) (by omega) (by rw [e2]; exact oR)
      rw [e1] at hva
      rw [e2] at hvb
      subst hva
      subst hvb
      obtain ⟨p1, hp1⟩ : ∃ p, passB false (n : Int) me lo ba (truthsL n off l) = p := ⟨_, rfl⟩
      obtain ⟨p2, hp2⟩ : ∃ p, passB true (n : Int) me lo ba (truthsL n off l) = p := ⟨_, rfl⟩
      have E : stateL (n : Int) me lo ba (truthsL n off l) = if p1 = true then 1 else if p2 = true then 3 else 2 := by unfold stateL; rw [hp1, hp2]
      have HE := Lib.hid E
      have H1 : Hid (∀ W, Gr wr W → Calls Try.prog 65 #[.agg #[.int .i64 (n : Int), .int .i64 me, .int .i64 lo, .int .i64 ba], .slice ra n rc] W fun e w' => e = .returned (.bool p1) ∧ Gr W w') := Lib.hid (fun W g => by
        have h := refPasses_any (n : Int) me lo ba (endsL false off l n) (by omega) (endsL_bd o0 o1 HB.out) (by omega) (by omega) m0 m1 ra rc W (rA.grow g)
        rw [ends_pass, hp1, e1] at h
        exact h)
      have H2 : Hid (∀ W, Gr wr W → Calls Try.prog 65 #[.agg #[.int .i64 (n : Int), .int .i64 me, .int .i64 lo, .int .i64 ba], .slice rb n rd] W fun e w' => e = .returned (.bool p2) ∧ Gr W w') := Lib.hid (fun W g => by
        have h := refPasses_any (n : Int) me lo ba (endsL true off l n) (by omega) (endsL_bd o0 o1 HB.out) (by omega) (by omega) m0 m1 rb rd W (rB.grow g)
        rw [ends_pass, hp2, e2] at h
        exact h)
      clear E hp1 hp2 e1 e2 rA rB oA oR hap
      have hbw := hb.keep gW
      obtain ⟨q0, q1, q2, q3⟩ := hbw.c4'
      have tok0 : True := trivial
      cases p1 with
      | true =>
        go_wp2_with (go_at_call 65; refine (H1.out _ (Below.refl _ _)).mono ?_; rintro e w5 ⟨rfl, g5⟩)
        go_ret
        exact ⟨by rw [HE.out]; rfl, gg.tr (gW.tr g5)⟩
      | false =>
        cases p2 with
        | true =>
          go_wp2_with (first
            | (have _t := tok0; clear tok0 _t; go_at_call 65; refine (H1.out _ (Below.refl _ _)).mono ?_; rintro e w5 ⟨rfl, g5⟩; (obtain ⟨x0, x1, x2, x3⟩ := (hbw.keep g5).c4'))
            | (go_at_call 65; refine (H2.out _ g5).mono ?_; rintro e w6 ⟨rfl, g6⟩))
          go_ret
          exact ⟨by rw [HE.out]; rfl, gg.tr (gW.tr (g5.tr g6))⟩
        | false =>
          go_wp2_with (first
            | (have _t := tok0; clear tok0 _t; go_at_call 65; refine (H1.out _ (Below.refl _ _)).mono ?_; rintro e w5 ⟨rfl, g5⟩; (obtain ⟨x0, x1, x2, x3⟩ := (hbw.keep g5).c4'))
            | (go_at_call 65; refine (H2.out _ g5).mono ?_; rintro e w6 ⟨rfl, g6⟩))
          go_ret
          exact ⟨by rw [HE.out]; rfl, gg.tr (gW.tr (g5.tr g6))⟩

end Go.Proofs.Ytjdeojpapdphoaa

namespace Go.Proofs.Ytjdeojpapdphoaa
set_option linter.unusedVariables false
set_option linter.unusedSimpArgs false
open Go.RowKit

theorem lints_at (L : List Int) (k : Nat) (hk : k ≤ L.length) (hl : L.length ≤ 1000) (b off cap : Nat) (w : World) (hr : IRow w (some ⟨b, off, none⟩) L) :
    Calls Try.prog 17 #[.slice (some ⟨b, off, none⟩) k cap] w fun e w' => ∃ a' cap', e = .returned (.slice a' k cap') ∧ IRow w' a' (L.take k) ∧ (a' = none → cap' = 0) ∧ k ≤ cap' ∧ Gr w w' := by
  have h := lints_any (L.take k) (by simp; omega) b off cap w (hr.take31 k)
  rw [List.length_take, Nat.min_eq_left hk] at h
  exact h

/-- What Decide says after so many readings. -/
def stK (T : List V2) (n : Nat) (me lo ba off : Int) (k : Nat) : Int := stateL (n : Int) me lo ba (truthsL n off ((lotRea T off n).take k))

/-- Whether the lot passes. -/
def lotP (T : List V2) (n : Nat) (me lo ba : Int) : Bool := passB false (n : Int) me lo ba (diag (lotTru T n))

theorem decide_at (T : List V2) (hT : ∀ v ∈ T, B2 v) (n : Nat) (n1 : 1 ≤ n) (n2 : n ≤ 8) (me lo ba off : Int) (m0 : 0 ≤ me) (m1 : me ≤ 255) (l0 : 0 ≤ lo) (l1 : lo ≤ 255) (b0 : 0 ≤ ba) (b1 : ba ≤ (n : Int)) (o0 : 0 ≤ off) (o1 : off ≤ 39) (k : Nat) (hk : k ≤ n)
    (a : Option Addr) (cap : Nat) (w : World) (hr : IRow w a ((lotRea T off n).take k)) (hn : a = none → cap = 0) :
    Calls Try.prog 19 #[.agg #[.int .i64 (n : Int), .int .i64 me, .int .i64 lo, .int .i64 ba], .slice a k cap, .int .i64 off] w fun e w' => e = .returned (.tuple #[.int .i64 (stK T n me lo ba off k), .int .i64 0]) ∧ Gr w w' := by
  have hl : ((lotRea T off n).take k).length = k := by rw [List.length_take, lotRea_len, Nat.min_eq_left hk]
  have h := decide_ok (n : Int) me lo ba off ((lotRea T off n).take k) (lot_rule n1 (by omega) m0 (by omega) l0 (by omega) b0 b1 o0 (by omega) (by omega) (fun r hr => by have := lotRea_mem hT o0 o1 (List.mem_of_mem_take hr); omega)) a cap w hr hn
  rw [hl, Int.toNat_natCast] at h
  exact h

theorem decide_end (T : List V2) (hT : ∀ v ∈ T, B2 v) (n : Nat) (n1 : 1 ≤ n) (n2 : n ≤ 8) (me lo ba : Int) (m0 : 0 ≤ me) (m1 : me ≤ 255) (l0 : 0 ≤ lo) (l1 : lo ≤ 255) (b0 : 0 ≤ ba) (b1 : ba ≤ (n : Int))
    (a : Option Addr) (cap : Nat) (w : World) (hr : IRow w a ((lotTru T n).take n)) (hn : a = none → cap = 0) :
    Calls Try.prog 19 #[.agg #[.int .i64 (n : Int), .int .i64 me, .int .i64 lo, .int .i64 ba], .slice a n cap, .int .i64 0] w fun e w' => e = .returned (.tuple #[.int .i64 (if lotP T n me lo ba = true then 1 else 2), .int .i64 0]) ∧ Gr w w' := by
  have hl := lotTru_len T n
  rw [List.take_of_length_le (by omega)] at hr
  have h := decide_ok (n : Int) me lo ba 0 (lotTru T n) (lot_rule n1 (by omega) m0 (by omega) l0 (by omega) b0 b1 (by omega) (by omega) (by omega) (fun r hr => by have := lotTru_mem hT hr; omega)) a cap w hr hn
  rw [hl, Int.toNat_natCast, exact_diag hT] at h
  have e : stateL (n : Int) me lo ba (diag (lotTru T n)) = if lotP T n me lo ba = true then 1 else 2 := by
    unfold lotP stateL
    rw [diag_pass true]
    split <;> rfl
  rw [e] at h
  exact h

theorem passes_at (T : List V2) (hT : ∀ v ∈ T, B2 v) (n : Nat) (n2 : n ≤ 8) (me lo ba : Int) (m0 : 0 ≤ me) (m1 : me ≤ 255) (p : Bool) (hp : lotP T n me lo ba = p) (a : Option Addr) (cap : Nat) (w : World) (hr : IRow w a (lotTru T n)) :
    Calls Try.prog 50 #[.agg #[.int .i64 (n : Int), .int .i64 me, .int .i64 lo, .int .i64 ba], .slice a n cap] w fun e w' => e = .returned (.bool p) ∧ Gr w w' := by
  have hl := lotTru_len T n
  have h := lpasses_any (n : Int) me lo ba (lotTru T n) (by omega) (fun x hx => by have := lotTru_mem hT hx; omega) (by omega) (by omega) m0 (by omega) a cap w hr
  rw [hl] at h
  rw [← hp]
  exact h

theorem sure_at (T : List V2) (hT : ∀ v ∈ T, B2 v) (n : Nat) (me lo ba off : Int) (o0 : 0 ≤ off) (o1 : off ≤ 39) (k : Nat) :
    (stK T n me lo ba off k = 3 ∨ (stK T n me lo ba off k = 1 ∧ lotP T n me lo ba = true) ∨ (stK T n me lo ba off k = 2 ∧ lotP T n me lo ba = false)) ∧ (stK T n me lo ba off k = 3 ∨ stK T n me lo ba off (k + 1) = stK T n me lo ba off k) := by
  have hw := tru_within hT o0 o1 n k
  have hw1 := tru_within hT o0 o1 n (k + 1)
  have ht := take_within n off (lotRea T off n) k
  unfold stK lotP
  by_cases h3 : stateL (n : Int) me lo ba (truthsL n off ((lotRea T off n).take k)) = 3
  · exact ⟨.inl h3, .inl h3⟩
  · refine ⟨.inr ?_, .inr (state_up ht hw1 h3)⟩
    have hi := state_in hw h3
    rcases state_bd (n : Int) me lo ba (truthsL n off ((lotRea T off n).take k)) with h | h | h
    · exact .inl ⟨h, hi.1 h⟩
    · refine .inr ⟨h, ?_⟩
      cases hp : passB false (n : Int) me lo ba (diag (lotTru T n)) with
      | false => rfl
      | true =>
        have := hi.2 hp
        omega
    · exact absurd h h3

end Go.Proofs.Ytjdeojpapdphoaa

namespace Go.Proofs.Ytjdeojpapdphoaa
set_option linter.unusedVariables false
set_option linter.unusedSimpArgs false
open Go.RowKit

/-- Truths, each one beneath the other. -/
def Beneath : List (Int × Int) → List (Int × Int) → Prop
  | [], [] => True
  | x :: l, y :: m => (x.1 ≤ y.1 ∧ x.2 ≤ y.2) ∧ Beneath l m
  | _, _ => False

theorem beneath_sum (hi : Bool) : ∀ {l m : List (Int × Int)}, Beneath l m → sumS hi l ≤ sumS hi m
  | [], [], _ => Int.le_refl _
  | x :: l, y :: m, h => by
    obtain ⟨⟨a, b⟩, c⟩ := h
    have := beneath_sum hi c
    simp only [sumS]
    cases hi <;> simp <;> omega
  | [], _ :: _, h => h.elim
  | _ :: _, [], h => h.elim

theorem beneath_bad (hi : Bool) (low : Int) : ∀ {l m : List (Int × Int)}, Beneath l m → badS hi low m ≤ badS hi low l
  | [], [], _ => Int.le_refl _
  | x :: l, y :: m, h => by
    obtain ⟨⟨a, b⟩, c⟩ := h
    have := beneath_bad hi low c
    have h1 : (if (if hi then y.2 else y.1) < low then (1 : Int) else 0) ≤ if (if hi then x.2 else x.1) < low then 1 else 0 := by
      cases hi <;> simp only [Bool.false_eq_true, if_false, if_true] <;> split <;> split <;> omega
    simp only [badS]
    omega
  | [], _ :: _, h => h.elim
  | _ :: _, [], h => h.elim

theorem beneath_pass {hi : Bool} {te me low ba : Int} {l m : List (Int × Int)} (h : Beneath l m) (hp : passB hi te me low ba l = true) : passB hi te me low ba m = true := by
  rw [passB_iff] at hp ⊢
  have h1 := beneath_sum hi h
  have h2 := beneath_bad hi low h
  omega

theorem beneath_map {f g : Nat → Int × Int} : ∀ L : List Nat, (∀ k ∈ L, (f k).1 ≤ (g k).1 ∧ (f k).2 ≤ (g k).2) → Beneath (L.map f) (L.map g)
  | [], _ => trivial
  | x :: L, h => ⟨h x List.mem_cons_self, beneath_map L (fun k hk => h k (List.mem_cons_of_mem _ hk))⟩

theorem few_pass (n : Nat) (off : Int) (l xs : List Int) (hx : ∀ x ∈ xs, x ≤ 100000) : Beneath (truthsL n off (l ++ xs)) (truthsL n off (l ++ List.replicate xs.length 100000)) := by
  refine beneath_map _ (fun i _ => ?_)
  unfold truthAt
  by_cases hi : i < l.length
  · rw [List.getElem?_append_left hi, List.getElem?_append_left hi]
    exact ⟨Int.le_refl _, Int.le_refl _⟩
  · rw [List.getElem?_append_right (by omega), List.getElem?_append_right (by omega), List.getElem?_replicate]
    cases hc : xs[i - l.length]? with
    | none =>
      have := List.getElem?_eq_none_iff.1 hc
      rw [if_neg (by omega)]
      exact ⟨Int.le_refl _, Int.le_refl _⟩
    | some r =>
      have h1 := (List.getElem?_eq_some_iff.1 hc).1
      have h2 := hx r (List.mem_of_getElem? hc)
      rw [if_pos h1]
      dsimp only
      omega

theorem few_fail (n : Nat) (off : Int) (l xs : List Int) (hx : ∀ x ∈ xs, 0 ≤ x) : Beneath (truthsL n off (l ++ List.replicate xs.length 0)) (truthsL n off (l ++ xs)) := by
  refine beneath_map _ (fun i _ => ?_)
  unfold truthAt
  by_cases hi : i < l.length
  · rw [List.getElem?_append_left hi, List.getElem?_append_left hi]
    exact ⟨Int.le_refl _, Int.le_refl _⟩
  · rw [List.getElem?_append_right (by omega), List.getElem?_append_right (by omega), List.getElem?_replicate]
    cases hc : xs[i - l.length]? with
    | none =>
      have := List.getElem?_eq_none_iff.1 hc
      rw [if_neg (by omega)]
      exact ⟨Int.le_refl _, Int.le_refl _⟩
    | some r =>
      have h1 := (List.getElem?_eq_some_iff.1 hc).1
      have h2 := hx r (List.mem_of_getElem? hc)
      rw [if_pos h1]
      dsimp only
      omega

/-- The worst and the best rest of the tests decide. -/
theorem few_sure {n : Nat} {me lo ba off : Int} {l xs : List Int} {st rd : Int} (hs : (st = 1 ∧ rd = 100000) ∨ (st = 2 ∧ rd = 0)) (hx : ∀ x ∈ xs, 0 ≤ x ∧ x ≤ 100000) (h : stateL (n : Int) me lo ba (truthsL n off (l ++ xs)) = st) : stAt n me lo ba off l rd xs.length = st := by
  unfold stAt
  rcases hs with ⟨rfl, rfl⟩ | ⟨rfl, rfl⟩
  · rw [state_one] at h ⊢
    exact beneath_pass (few_pass n off l xs (fun x hx' => (hx x hx').2)) h
  · rw [state_two] at h ⊢
    have hb := few_fail n off l xs (fun x hx' => (hx x hx').1)
    constructor
    · cases hp : passB false (n : Int) me lo ba (truthsL n off (l ++ List.replicate xs.length 0)) with
      | false => rfl
      | true =>
        rw [beneath_pass hb hp] at h
        exact absurd h.1 (by decide)
    · cases hp : passB true (n : Int) me lo ba (truthsL n off (l ++ List.replicate xs.length 0)) with
      | false => rfl
      | true =>
        rw [beneath_pass hb hp] at h
        exact absurd h.2 (by decide)

theorem need_spec {n : Nat} {me lo ba off : Int} {l : List Int} {st rd N : Int} (hl : l.length ≤ n) (hN : needL n me lo ba off l st rd = N) :
    (-1 ≤ N ∧ N ≤ (n : Int) - (l.length : Int)) ∧ (0 ≤ N → stAt n me lo ba off l rd N.toNat = st) ∧ (∀ j : Nat, ((j : Int) < N ∨ (N < 0 ∧ (j : Int) ≤ (n : Int) - (l.length : Int))) → stAt n me lo ba off l rd j ≠ st) := by
  unfold needL at hN
  cases hf : (List.range (n + 1 - l.length)).find? (fun k => decide (stAt n me lo ba off l rd k = st)) with
  | none =>
    rw [hf] at hN
    have hN' : -1 = N := hN
    subst hN'
    rw [List.find?_range_eq_none] at hf
    refine ⟨⟨by omega, by omega⟩, fun h => by omega, fun j hj => ?_⟩
    have := hf j (by omega)
    simpa using this
  | some k =>
    rw [hf] at hN
    have hN' : (k : Int) = N := hN
    subst hN'
    have hf' := List.find?_range_eq_some.1 hf
    have hk := List.mem_range.1 hf'.2.1
    refine ⟨⟨by omega, by omega⟩, fun _ => by simpa using hf'.1, fun j hj => ?_⟩
    have := hf'.2.2 j (by omega)
    simpa using this

/-- The rest of the tests by a list. -/
def anyAt (Q : List Int) (rd : Int) (i : Nat) : Int := match Q[i]? with
  | some v => v
  | none => rd

def anyL (Q : List Int) (rd : Int) (n : Nat) : List Int := (List.range n).map (anyAt Q rd)

theorem anyL_succ (Q : List Int) (rd : Int) (n : Nat) : anyL Q rd (n + 1) = anyL Q rd n ++ [anyAt Q rd n] := by simp [anyL, List.range_succ]

theorem anyL_len (Q : List Int) (rd : Int) (n : Nat) : (anyL Q rd n).length = n := by simp [anyL]

theorem anyAt_bd {Q : List Int} {rd : Int} (hQ : ∀ x ∈ Q, 0 ≤ x ∧ x ≤ 65535) (r0 : 0 ≤ rd) (r1 : rd ≤ 100000) (i : Nat) : 0 ≤ anyAt Q rd i ∧ anyAt Q rd i ≤ 100000 := by
  unfold anyAt
  split
  · rename_i v hv
    have := hQ v (List.mem_of_getElem? hv)
    omega
  · omega

theorem anyL_bd {Q : List Int} {rd : Int} (hQ : ∀ x ∈ Q, 0 ≤ x ∧ x ≤ 65535) (r0 : 0 ≤ rd) (r1 : rd ≤ 100000) {n : Nat} {x : Int} (hx : x ∈ anyL Q rd n) : 0 ≤ x ∧ x ≤ 100000 := by
  simp only [anyL, List.mem_map, List.mem_range] at hx
  obtain ⟨i, _, rfl⟩ := hx
  exact anyAt_bd hQ r0 r1 i

def encH (n : Int) : List Value := [.int .u16 n]

abbrev HRow := RowOf 1 encH

theorem HRow.get {w : World} {a : Option Addr} {l : List Int} (h : HRow w a l) {j : Nat} {x : Int} (hx : l[j]? = some x) :
    ∃ b off, a = some ⟨b, off, none⟩ ∧ b < w.heap.size ∧ w.cell? ⟨b, off + j, none⟩ = some (.int .u16 x) := by
  obtain ⟨b, off, ha, hb, hc⟩ := h.2 j x hx
  have := hc 0 (.int .u16 x) rfl
  exact ⟨b, off, ha, hb, by simpa using this⟩

/-- The copy, as a row of the call's own. -/
theorem lints_own (l : List Int) (hl : l.length ≤ 1000) (b off cap : Nat) (w : World) (hr : IRow w (some ⟨b, off, none⟩) l) :
    Calls Try.prog 17 #[.slice (some ⟨b, off, none⟩) l.length cap] w fun e w' => ∃ v, e = .returned v ∧ w'.ownsRow w.heap.size 3 1 v l.length (l.flatMap encI) ∧ Gr w w' := by
  obtain ⟨i0, hi, hz0, hz1, hz2⟩ := info_parts infoInt
  have hr1 := hr.grow (Gr.al w (.cells #[] 3))
  have h1 : 0 + l.length ≤ maxLen := by unfold maxLen; omega
  have h2 : (0 + l.length) * 8 ≤ 140737488355328 := by omega
  have hfl := flat_len (enc := encI) (sz := 1) (fun _ => rfl) l
  have hnews := row_news (enc := encI) (sz := 1) (fun _ => rfl) hr1
  have Hfl := Lib.hid hfl
  have Hnews := Lib.hid hnews
  clear hfl hnews
  go_enter Try.func17, Try.ntmps17
  go_wp2_with (at_builtin; refine wpList_append_own _ rfl _ _ 24 rfl w.heap.size 3 i0 (.int .i64 0) 1 8 Try.underlying24 hi hz0 hz1 hz2 rfl (by decide) _ _ _ rfl (owns_empty w _ _) ⟨b, off, none⟩ l.length cap (l.flatMap encI) rfl Hfl.out Hnews.out (one_flat (fun x u hu => by simp [encI] at hu; subst hu; rfl) l) h1 h2 (by simp) ?_; intro v' w1 hown hgrow _)
  have Ho := Lib.hid (show w1.ownsRow w.heap.size 3 1 v' l.length (l.flatMap encI) by simpa using hown)
  clear hown
  go_wp2
  go_ret
  exact ⟨v', rfl, Ho.out, (Gr.al w _).grown' (owns_empty w _ 1) (Nat.le_refl _) hgrow⟩

theorem lints_own_at (L : List Int) (k : Nat) (hk : k ≤ L.length) (hl : L.length ≤ 1000) (b off cap : Nat) (w : World) (hr : IRow w (some ⟨b, off, none⟩) L) :
    Calls Try.prog 17 #[.slice (some ⟨b, off, none⟩) k cap] w fun e w' => ∃ v, e = .returned v ∧ w'.ownsRow w.heap.size 3 1 v k ((L.take k).flatMap encI) ∧ Gr w w' := by
  have h := lints_own (L.take k) (by simp; omega) b off cap w (hr.take31 k)
  rw [List.length_take, Nat.min_eq_left hk] at h
  exact h

/-- Need after so many readings. -/
theorem need_at (T : List V2) (hT : ∀ v ∈ T, B2 v) (n : Nat) (n1 : 1 ≤ n) (n2 : n ≤ 8) (me lo ba off : Int) (m0 : 0 ≤ me) (m1 : me ≤ 255) (l0 : 0 ≤ lo) (l1 : lo ≤ 255) (b0 : 0 ≤ ba) (b1 : ba ≤ (n : Int)) (o0 : 0 ≤ off) (o1 : off ≤ 39) (k : Nat) (hk : k ≤ n)
    (a : Option Addr) (cap : Nat) (w : World) (hr : IRow w a ((lotRea T off n).take k)) (hn : a = none → cap = 0) :
    Calls Try.prog 20 #[.agg #[.int .i64 (n : Int), .int .i64 me, .int .i64 lo, .int .i64 ba], .slice a k cap, .int .i64 off] w fun e w' => e = .returned (.tuple #[.int .i64 (needL n me lo ba off ((lotRea T off n).take k) 1 100000), .int .i64 (needL n me lo ba off ((lotRea T off n).take k) 2 0), .int .i64 0]) ∧ Gr w w' := by
  have hl : ((lotRea T off n).take k).length = k := by rw [List.length_take, lotRea_len, Nat.min_eq_left hk]
  have h := needF_ok (n : Int) me lo ba off ((lotRea T off n).take k) (lot_rule n1 (by omega) m0 (by omega) l0 (by omega) b0 b1 o0 (by omega) (by omega) (fun r hr => by have := lotRea_mem hT o0 o1 (List.mem_of_mem_take hr); omega)) a cap w hr hn
  rw [hl, Int.toNat_natCast] at h
  exact h

/-- Decide of the readings and some more. -/
theorem decide_more (l : List Int) (n : Nat) (n1 : 1 ≤ n) (n2 : n ≤ 8) (me lo ba off : Int) (m0 : 0 ≤ me) (m1 : me ≤ 255) (l0 : 0 ≤ lo) (l1 : lo ≤ 255) (b0 : 0 ≤ ba) (b1 : ba ≤ (n : Int)) (o0 : 0 ≤ off) (o1 : off ≤ 39) (k : Nat) (hk : l.length = k) (hkn : k ≤ n) (hB : ∀ r ∈ l, 0 ≤ r ∧ r ≤ 100000)
    (s : Int) (hs : stateL (n : Int) me lo ba (truthsL n off l) = s) (a : Option Addr) (cap : Nat) (w : World) (hr : IRow w a l) (hn : a = none → cap = 0) :
    Calls Try.prog 19 #[.agg #[.int .i64 (n : Int), .int .i64 me, .int .i64 lo, .int .i64 ba], .slice a k cap, .int .i64 off] w fun e w' => e = .returned (.tuple #[.int .i64 s, .int .i64 0]) ∧ Gr w w' := by
  have h := decide_ok (n : Int) me lo ba off l (lot_rule n1 (by omega) m0 (by omega) l0 (by omega) b0 b1 o0 (by omega) (by omega) hB) a cap w hr hn
  rw [hk, Int.toNat_natCast, hs] at h
  exact h

end Go.Proofs.Ytjdeojpapdphoaa

namespace Go.Proofs.Ytjdeojpapdphoaa
set_option linter.unusedVariables false
set_option linter.unusedSimpArgs false
open Go.RowKit

set_option maxRecDepth 100000 in
theorem lints_gen (l : List Int) (hl : l.length ≤ 1000) (a : Option Addr) (cap : Nat) (w : World) (hr : IRow w a l) :
    Calls Try.prog 17 #[.slice a l.length cap] w fun e w' => ∃ a' cap', e = .returned (.slice a' l.length cap') ∧ IRow w' a' l ∧ (a' = none → cap' = 0) ∧ l.length ≤ cap' ∧ Gr w w' := by
  cases a with
  | none =>
    obtain rfl : l = [] := irow_nil hr
    go_enter Try.func17, Try.ntmps17
    go_wp2
    go_ret
    exact ⟨some ⟨w.heap.size, 0, none⟩, 0, rfl, RowOf.nil, fun h => (by cases h), Nat.le_refl _, Gr.al _ _⟩
  | some ad =>
    rcases Nat.eq_zero_or_pos l.length with h0 | h0
    · obtain rfl : l = [] := List.eq_nil_of_length_eq_zero h0
      obtain ⟨i0, hi, hz0, hz1, hz2⟩ := info_parts infoInt
      go_enter Try.func17, Try.ntmps17
      go_wp2_with (at_builtin; refine wpList_append_own _ rfl _ _ 24 rfl w.heap.size 3 i0 (.int .i64 0) 1 8 Try.underlying24 hi hz0 hz1 hz2 rfl (by decide) _ _ _ rfl (owns_empty w _ _) ad 0 cap [] rfl rfl (fun j u h => by simp at h) (fun u h => by cases h) (by decide) (by decide) (by simp) ?_; intro v' w1 hown hgrow _)
      obtain ⟨a', cap', hv, hr2, hn2, hc2⟩ := owns_row_cap (enc := encI) (l := []) (fun _ => rfl) (by simp) (by simpa using hown)
      subst hv
      have Hr2 := Lib.hid hr2
      have Hn2 := Lib.hid hn2
      clear hr2 hn2 hown
      go_wp2
      go_ret
      first | exact ⟨a', cap', rfl, Hr2.out, Hn2.out, Nat.zero_le _, (Gr.al w _).grown' (owns_empty w _ 1) (Nat.le_refl _) hgrow⟩ | exact ⟨a', cap', rfl, Hr2.out, Hn2.out, (Gr.al w _).grown' (owns_empty w _ 1) (Nat.le_refl _) hgrow⟩
    · obtain ⟨b, off, e, _⟩ := hr.addr h0
      injection e with e
      subst e
      exact lints_any l hl b off cap w hr

theorem needL_some {n : Nat} {me lo ba off : Int} {l : List Int} {st rd : Int} {k : Nat} (hk : l.length + k ≤ n) (h : stAt n me lo ba off l rd k = st) (hb : ∀ j, j < k → stAt n me lo ba off l rd j ≠ st) : needL n me lo ba off l st rd = (k : Int) := by
  have hf : (List.range (n + 1 - l.length)).find? (fun k => decide (stAt n me lo ba off l rd k = st)) = some k := by
    rw [List.find?_range_eq_some]
    exact ⟨by simp [h], List.mem_range.2 (by omega), fun j hj => by simpa using hb j hj⟩
  unfold needL
  rw [hf]

theorem needL_none {n : Nat} {me lo ba off : Int} {l : List Int} {st rd : Int} (hb : ∀ j, j < n + 1 - l.length → stAt n me lo ba off l rd j ≠ st) : needL n me lo ba off l st rd = -1 := by
  have hf : (List.range (n + 1 - l.length)).find? (fun k => decide (stAt n me lo ba off l rd k = st)) = none := by
    rw [List.find?_range_eq_none]
    intro j hj
    simpa using hb j hj
  unfold needL
  rw [hf]

set_option maxRecDepth 100000 in
set_option maxHeartbeats 8000000 in
theorem refNeed_any (n : Nat) (me lo ba off : Int) (l : List Int) (st rd : Int) (n1 : 1 ≤ n) (n2 : n ≤ 20) (m0 : 0 ≤ me) (m1 : me ≤ 100000) (o0 : 0 ≤ off) (o1 : off ≤ 1000) (hl : l.length ≤ n) (hB : ∀ r ∈ l, 0 ≤ r ∧ r ≤ 100000) (rd0 : 0 ≤ rd) (rd1 : rd ≤ 100000) (a : Option Addr) (cap : Nat) (w : World) (hr : IRow w a l) :
    Calls Try.prog 24 #[.agg #[.int .i64 (n : Int), .int .i64 me, .int .i64 lo, .int .i64 ba], .slice a l.length cap, .int .i64 off, .int .i64 rd, .int .i64 st] w fun e w' => e = .returned (.int .i64 (needL n me lo ba off l st rd)) ∧ Gr w w' := by
  have gg := Gr.al w (.cells #[.int .i64 (n : Int), .int .i64 me, .int .i64 lo, .int .i64 ba] 23)
  have hb := Box.new w [.int .i64 (n : Int), .int .i64 me, .int .i64 lo, .int .i64 ba] 23 w.heap.size rfl
  have HB := Lib.hid hB
  clear hB
  obtain ⟨i0, hi, hz0, hz1, hz2⟩ := info_parts infoInt
  go_enter Try.func24, Try.ntmps24
  go_upto_region 1 with fail
  refine wp_abs (fun U => Gr w U ∧ Box U w.heap.size [.int .i64 (n : Int), .int .i64 me, .int .i64 lo, .int .i64 ba]) ⟨gg, hb⟩ ?_
  clear gg hb
  rintro U ⟨gg, hb⟩
  have hrU := hr.grow gg
  obtain ⟨B0, hB0⟩ : ∃ B0, B0 = U.heap.size := ⟨_, rfl⟩
  have hB1 : U.heap.size ≤ B0 ∧ B0 ≤ U.heap.size := by omega
  have g1 := Gr.al U (.cells #[] 3)
  have oE := owns_empty U 3 1
  have h1 : 0 + l.length ≤ maxLen := by unfold maxLen; omega
  have h2 : (0 + l.length) * 8 ≤ 140737488355328 := by omega
  have hfl := flat_len (enc := encI) (sz := 1) (fun _ => rfl) l
  rcases Nat.eq_zero_or_pos l.length with h0 | h0
  · obtain rfl : l = [] := List.eq_nil_of_length_eq_zero h0
    simp only [List.length_nil]
    clear h0 h1 h2 hfl
    cases a with
    | none =>
      go_upto_region 2 with fail
      rw [← hB0] at oE ⊢
      clear hB0
      refine wp_abs (fun V => Gr U V ∧ V.ownsRow B0 3 1 (.slice (some ⟨B0, 0, none⟩) 0 0) ([] : List Int).length (([] : List Int).flatMap encI)) ⟨g1, oE⟩ ?_
      clear g1 oE
      rintro V ⟨gV, oV⟩
      obtain ⟨m, hm⟩ : ∃ m, ([] : List Int).length = m := ⟨_, rfl⟩
      rw [hm] at hl
      have HM := Lib.hid hm
      rw [hm] at oV
      clear hm
      go_wp2
      go_loopw [12, 11] (fun i s wr => Hid (∃ k : Nat, m + k ≤ n + 1 ∧ i = .int .i64 k ∧ Gr U wr ∧ wr.ownsRow B0 3 1 s (m + k) ((([] : List Int) ++ List.replicate k rd).flatMap encI) ∧ ∀ j, j < k → stAt n me lo ba off ([] : List Int) rd j ≠ st)) (fun i _ _ => n + 1 - m - (intOf i).toNat)
      case atStart => exact Lib.hid ⟨0, by omega, rfl, gV, (by simpa using oV), fun j hj => by omega⟩
      case round =>
        clear gV oV
        obtain ⟨k, hk, rfl, gW, oW, hp⟩ := hrel.out
        clear hrel
        have HP := Lib.hid hp
        clear hp
        have hGl : (([] : List Int) ++ List.replicate k rd).length = m + k := by rw [List.length_append, List.length_replicate, HM.out]
        obtain ⟨ra, rc, hva, rA, _, _⟩ := owns_row_cap (enc := encI) (l := ([] : List Int) ++ List.replicate k rd) (fun _ => rfl) (by omega) (by rw [hGl]; exact oW)
        rw [hGl] at hva
        subst hva
        have hbw := hb.keep gW
        obtain ⟨q0, q1, q2, q3⟩ := hbw.c4'
        by_cases hlt : m + k ≤ n
        · obtain ⟨s, hs⟩ : ∃ s, stAt n me lo ba off ([] : List Int) rd k = s := ⟨_, rfl⟩
          have hD := refDecide_any n me lo ba off (([] : List Int) ++ List.replicate k rd) n1 n2 m0 m1 o0 o1 (by omega) (fun r hr' => by
            rcases List.mem_append.1 hr' with h | h
            · exact HB.out r h
            · obtain ⟨_, rfl⟩ := List.mem_replicate.1 h
              omega) ra rc wr rA
          unfold stAt at hs
          rw [hs, hGl] at hD
          have hs' : stAt n me lo ba off ([] : List Int) rd k = s := hs
          have HD := Lib.hid hD
          have HSS := Lib.hid hs'
          clear hD hs hs' hGl
          have c1 : ((m + k : Nat) : Int) ≤ (n : Int) := by omega
          have c1' : (m : Int) + (k : Int) ≤ (n : Int) := by omega
          by_cases hst : s = st
          · have d0 : (s == st) = true := by simpa using hst
            have E := Lib.hid (needL_some (by rw [HM.out]; exact hlt) (HSS.out.trans hst) HP.out)
            clear hst
            go_wp2_with (go_at_call 23; refine HD.out.mono ?_; rintro e w5 ⟨rfl, g5⟩)
            go_ret
            exact ⟨by rw [E.out]; rfl, gg.tr (gW.tr g5)⟩
          · have d0 : (s == st) = false := by simpa using hst
            have HP2 := Lib.hid (show ∀ j, j < k + 1 → stAt n me lo ba off ([] : List Int) rd j ≠ st from fun j hj => by
              rcases Nat.lt_or_ge j k with h | h
              · exact HP.out j h
              · obtain rfl : j = k := by omega
                rw [HSS.out]
                exact hst)
            have k1 : m + k + 1 ≤ maxLen := by unfold maxLen; omega
            have k2 : (m + k + 1) * 8 ≤ 140737488355328 := by omega
            clear hst
            go_wp2_with (first
              | (go_at_call 23; refine HD.out.mono ?_; rintro e w5 ⟨rfl, g5⟩)
              | (at_builtin; refine wpList_append_own _ rfl _ _ 24 rfl B0 3 i0 (.int .i64 0) 1 8 Try.underlying24 hi hz0 hz1 hz2 rfl (by decide) (.slice ra (m + k) rc) (m + k) _ rfl (owns_keep oW (g5.tr (Gr.al w5 (.cells #[.int .i64 rd] 3)))) ⟨w5.heap.size, 0, none⟩ 1 1 ([(rd : Int)].map (fun n => Value.int .i64 n)) rfl rfl (cell_news _ _ _) (ints_one _) k1 k2 (by have := (gW.tr (g5.tr (Gr.al w5 (.cells #[.int .i64 rd] 3)))).size; omega) ?_; intro v' w6 hown' hgrow' _))
            go_roundw
            case rel =>
              have gN := g5.tr (Gr.al w5 (.cells #[.int .i64 rd] 3))
              have gZ := (gW.tr gN).grown' (owns_keep oW gN) (by omega) hgrow'
              exact Lib.hid ⟨k + 1, by omega, by go_num, gZ, (by rw [List.replicate_succ', ← List.append_assoc, flat_snoc]; exact hown'), HP2.out⟩
            case measure => simp [intOf]; omega
        · have c1 : ¬ ((m + k : Nat) : Int) ≤ (n : Int) := by omega
          have c1' : ¬ (m : Int) + (k : Int) ≤ (n : Int) := by omega
          have c2 : decide ((m : Int) + (k : Int) ≤ (n : Int)) = false := by simpa using c1'
          have E := Lib.hid (needL_none (n := n) (me := me) (lo := lo) (ba := ba) (off := off) (l := ([] : List Int)) (st := st) (rd := rd) (fun j hj => HP.out j (by rw [HM.out] at hj; omega)))
          go_wp2
          go_ret
          exact ⟨by rw [E.out]; rfl, gg.tr gW⟩
    | some ad =>
      go_upto_region 2 with (at_builtin; refine wpList_append_own _ rfl _ _ 24 rfl U.heap.size 3 i0 (.int .i64 0) 1 8 Try.underlying24 hi hz0 hz1 hz2 rfl (by decide) _ _ _ rfl oE ad 0 cap [] rfl rfl (fun j u h => by simp at h) (fun u h => by cases h) (by decide) (by decide) (by simp) ?_; intro v' w1 hown hgrow _)
      have gV := g1.grown' oE (Nat.le_refl _) hgrow
      have oV : w1.ownsRow U.heap.size 3 1 v' ([] : List Int).length (([] : List Int).flatMap encI) := by simpa using hown
      rw [← hB0] at oV
      clear hB0 hown hgrow oE g1
      refine wp_abs (fun V => Gr U V ∧ V.ownsRow B0 3 1 v' ([] : List Int).length (([] : List Int).flatMap encI)) ⟨gV, oV⟩ ?_
      clear gV oV
      rintro V ⟨gV, oV⟩
      obtain ⟨m, hm⟩ : ∃ m, ([] : List Int).length = m := ⟨_, rfl⟩
      rw [hm] at hl
      have HM := Lib.hid hm
      rw [hm] at oV
      clear hm
      go_wp2
      go_loopw [12, 11] (fun i s wr => Hid (∃ k : Nat, m + k ≤ n + 1 ∧ i = .int .i64 k ∧ Gr U wr ∧ wr.ownsRow B0 3 1 s (m + k) ((([] : List Int) ++ List.replicate k rd).flatMap encI) ∧ ∀ j, j < k → stAt n me lo ba off ([] : List Int) rd j ≠ st)) (fun i _ _ => n + 1 - m - (intOf i).toNat)
      case atStart => exact Lib.hid ⟨0, by omega, rfl, gV, (by simpa using oV), fun j hj => by omega⟩
      case round =>
        clear gV oV
        obtain ⟨k, hk, rfl, gW, oW, hp⟩ := hrel.out
        clear hrel
        have HP := Lib.hid hp
        clear hp
        have hGl : (([] : List Int) ++ List.replicate k rd).length = m + k := by rw [List.length_append, List.length_replicate, HM.out]
        obtain ⟨ra, rc, hva, rA, _, _⟩ := owns_row_cap (enc := encI) (l := ([] : List Int) ++ List.replicate k rd) (fun _ => rfl) (by omega) (by rw [hGl]; exact oW)
        rw [hGl] at hva
        subst hva
        have hbw := hb.keep gW
        obtain ⟨q0, q1, q2, q3⟩ := hbw.c4'
        by_cases hlt : m + k ≤ n
        · obtain ⟨s, hs⟩ : ∃ s, stAt n me lo ba off ([] : List Int) rd k = s := ⟨_, rfl⟩
          have hD := refDecide_any n me lo ba off (([] : List Int) ++ List.replicate k rd) n1 n2 m0 m1 o0 o1 (by omega) (fun r hr' => by
            rcases List.mem_append.1 hr' with h | h
            · exact HB.out r h
            · obtain ⟨_, rfl⟩ := List.mem_replicate.1 h
              omega) ra rc wr rA
          unfold stAt at hs
          rw [hs, hGl] at hD
          have hs' : stAt n me lo ba off ([] : List Int) rd k = s := hs
          have HD := Lib.hid hD
          have HSS := Lib.hid hs'
          clear hD hs hs' hGl
          have c1 : ((m + k : Nat) : Int) ≤ (n : Int) := by omega
          have c1' : (m : Int) + (k : Int) ≤ (n : Int) := by omega
          by_cases hst : s = st
          · have d0 : (s == st) = true := by simpa using hst
            have E := Lib.hid (needL_some (by rw [HM.out]; exact hlt) (HSS.out.trans hst) HP.out)
            clear hst
            go_wp2_with (go_at_call 23; refine HD.out.mono ?_; rintro e w5 ⟨rfl, g5⟩)
            go_ret
            exact ⟨by rw [E.out]; rfl, gg.tr (gW.tr g5)⟩
          · have d0 : (s == st) = false := by simpa using hst
            have HP2 := Lib.hid (show ∀ j, j < k + 1 → stAt n me lo ba off ([] : List Int) rd j ≠ st from fun j hj => by
              rcases Nat.lt_or_ge j k with h | h
              · exact HP.out j h
              · obtain rfl : j = k := by omega
                rw [HSS.out]
                exact hst)
            have k1 : m + k + 1 ≤ maxLen := by unfold maxLen; omega
            have k2 : (m + k + 1) * 8 ≤ 140737488355328 := by omega
            clear hst
            go_wp2_with (first
              | (go_at_call 23; refine HD.out.mono ?_; rintro e w5 ⟨rfl, g5⟩)
              | (at_builtin; refine wpList_append_own _ rfl _ _ 24 rfl B0 3 i0 (.int .i64 0) 1 8 Try.underlying24 hi hz0 hz1 hz2 rfl (by decide) (.slice ra (m + k) rc) (m + k) _ rfl (owns_keep oW (g5.tr (Gr.al w5 (.cells #[.int .i64 rd] 3)))) ⟨w5.heap.size, 0, none⟩ 1 1 ([(rd : Int)].map (fun n => Value.int .i64 n)) rfl rfl (cell_news _ _ _) (ints_one _) k1 k2 (by have := (gW.tr (g5.tr (Gr.al w5 (.cells #[.int .i64 rd] 3)))).size; omega) ?_; intro v' w6 hown' hgrow' _))
            go_roundw
            case rel =>
              have gN := g5.tr (Gr.al w5 (.cells #[.int .i64 rd] 3))
              have gZ := (gW.tr gN).grown' (owns_keep oW gN) (by omega) hgrow'
              exact Lib.hid ⟨k + 1, by omega, by go_num, gZ, (by rw [List.replicate_succ', ← List.append_assoc, flat_snoc]; exact hown'), HP2.out⟩
            case measure => simp [intOf]; omega
        · have c1 : ¬ ((m + k : Nat) : Int) ≤ (n : Int) := by omega
          have c1' : ¬ (m : Int) + (k : Int) ≤ (n : Int) := by omega
          have c2 : decide ((m : Int) + (k : Int) ≤ (n : Int)) = false := by simpa using c1'
          have E := Lib.hid (needL_none (n := n) (me := me) (lo := lo) (ba := ba) (off := off) (l := ([] : List Int)) (st := st) (rd := rd) (fun j hj => HP.out j (by rw [HM.out] at hj; omega)))
          go_wp2
          go_ret
          exact ⟨by rw [E.out]; rfl, gg.tr gW⟩
  · obtain ⟨b, of1, rfl, _⟩ := hrU.addr h0
    have hnews := row_news (enc := encI) (sz := 1) (fun _ => rfl) (hrU.grow g1)
    have Hnews := Lib.hid hnews
    have Hfl := Lib.hid hfl
    clear hnews hfl
    go_upto_region 2 with (at_builtin; refine wpList_append_own _ rfl _ _ 24 rfl U.heap.size 3 i0 (.int .i64 0) 1 8 Try.underlying24 hi hz0 hz1 hz2 rfl (by decide) _ _ _ rfl oE ⟨b, of1, none⟩ l.length cap (l.flatMap encI) rfl Hfl.out Hnews.out (one_flat (fun x u hu => by simp [encI] at hu; subst hu; rfl) l) h1 h2 (by simp) ?_; intro v' w1 hown hgrow _)
    have gV := g1.grown' oE (Nat.le_refl _) hgrow
    have oV : w1.ownsRow U.heap.size 3 1 v' l.length (l.flatMap encI) := by simpa using hown
    rw [← hB0] at oV
    clear hB0 hown hgrow oE g1 Hnews Hfl
    refine wp_abs (fun V => Gr U V ∧ V.ownsRow B0 3 1 v' l.length (l.flatMap encI)) ⟨gV, oV⟩ ?_
    clear gV oV
    rintro V ⟨gV, oV⟩
    obtain ⟨m, hm⟩ : ∃ m, l.length = m := ⟨_, rfl⟩
    rw [hm] at hl
    have HM := Lib.hid hm
    rw [hm] at oV
    clear hm
    go_wp2
    go_loopw [12, 11] (fun i s wr => Hid (∃ k : Nat, m + k ≤ n + 1 ∧ i = .int .i64 k ∧ Gr U wr ∧ wr.ownsRow B0 3 1 s (m + k) ((l ++ List.replicate k rd).flatMap encI) ∧ ∀ j, j < k → stAt n me lo ba off l rd j ≠ st)) (fun i _ _ => n + 1 - m - (intOf i).toNat)
    case atStart => exact Lib.hid ⟨0, by omega, rfl, gV, (by simpa using oV), fun j hj => by omega⟩
    case round =>
      clear gV oV
      obtain ⟨k, hk, rfl, gW, oW, hp⟩ := hrel.out
      clear hrel
      have HP := Lib.hid hp
      clear hp
      have hGl : (l ++ List.replicate k rd).length = m + k := by rw [List.length_append, List.length_replicate, HM.out]
      obtain ⟨ra, rc, hva, rA, _, _⟩ := owns_row_cap (enc := encI) (l := l ++ List.replicate k rd) (fun _ => rfl) (by omega) (by rw [hGl]; exact oW)
      rw [hGl] at hva
      subst hva
      have hbw := hb.keep gW
      obtain ⟨q0, q1, q2, q3⟩ := hbw.c4'
      by_cases hlt : m + k ≤ n
      · obtain ⟨s, hs⟩ : ∃ s, stAt n me lo ba off l rd k = s := ⟨_, rfl⟩
        have hD := refDecide_any n me lo ba off (l ++ List.replicate k rd) n1 n2 m0 m1 o0 o1 (by omega) (fun r hr' => by
          rcases List.mem_append.1 hr' with h | h
          · exact HB.out r h
          · obtain ⟨_, rfl⟩ := List.mem_replicate.1 h
            omega) ra rc wr rA
        unfold stAt at hs
        rw [hs, hGl] at hD
        have hs' : stAt n me lo ba off l rd k = s := hs
        have HD := Lib.hid hD
        have HSS := Lib.hid hs'
        clear hD hs hs' hGl
        have c1 : ((m + k : Nat) : Int) ≤ (n : Int) := by omega
        have c1' : (m : Int) + (k : Int) ≤ (n : Int) := by omega
        by_cases hst : s = st
        · have d0 : (s == st) = true := by simpa using hst
          have E := Lib.hid (needL_some (by rw [HM.out]; exact hlt) (HSS.out.trans hst) HP.out)
          clear hst
          go_wp2_with (go_at_call 23; refine HD.out.mono ?_; rintro e w5 ⟨rfl, g5⟩)
          go_ret
          exact ⟨by rw [E.out]; rfl, gg.tr (gW.tr g5)⟩
        · have d0 : (s == st) = false := by simpa using hst
          have HP2 := Lib.hid (show ∀ j, j < k + 1 → stAt n me lo ba off l rd j ≠ st from fun j hj => by
            rcases Nat.lt_or_ge j k with h | h
            · exact HP.out j h
            · obtain rfl : j = k := by omega
              rw [HSS.out]
              exact hst)
          have k1 : m + k + 1 ≤ maxLen := by unfold maxLen; omega
          have k2 : (m + k + 1) * 8 ≤ 140737488355328 := by omega
          clear hst
          go_wp2_with (first
            | (go_at_call 23; refine HD.out.mono ?_; rintro e w5 ⟨rfl, g5⟩)
            | (at_builtin; refine wpList_append_own _ rfl _ _ 24 rfl B0 3 i0 (.int .i64 0) 1 8 Try.underlying24 hi hz0 hz1 hz2 rfl (by decide) (.slice ra (m + k) rc) (m + k) _ rfl (owns_keep oW (g5.tr (Gr.al w5 (.cells #[.int .i64 rd] 3)))) ⟨w5.heap.size, 0, none⟩ 1 1 ([(rd : Int)].map (fun n => Value.int .i64 n)) rfl rfl (cell_news _ _ _) (ints_one _) k1 k2 (by have := (gW.tr (g5.tr (Gr.al w5 (.cells #[.int .i64 rd] 3)))).size; omega) ?_; intro v' w6 hown' hgrow' _))
          go_roundw
          case rel =>
            have gN := g5.tr (Gr.al w5 (.cells #[.int .i64 rd] 3))
            have gZ := (gW.tr gN).grown' (owns_keep oW gN) (by omega) hgrow'
            exact Lib.hid ⟨k + 1, by omega, by go_num, gZ, (by rw [List.replicate_succ', ← List.append_assoc, flat_snoc]; exact hown'), HP2.out⟩
          case measure => simp [intOf]; omega
      · have c1 : ¬ ((m + k : Nat) : Int) ≤ (n : Int) := by omega
        have c1' : ¬ (m : Int) + (k : Int) ≤ (n : Int) := by omega
        have c2 : decide ((m : Int) + (k : Int) ≤ (n : Int)) = false := by simpa using c1'
        have E := Lib.hid (needL_none (n := n) (me := me) (lo := lo) (ba := ba) (off := off) (l := l) (st := st) (rd := rd) (fun j hj => HP.out j (by rw [HM.out] at hj; omega)))
        go_wp2
        go_ret
        exact ⟨by rw [E.out]; rfl, gg.tr gW⟩

end Go.Proofs.Ytjdeojpapdphoaa

namespace Go.Proofs.Ytjdeojpapdphoaa
set_option linter.unusedVariables false
set_option linter.unusedSimpArgs false
open Go.RowKit

set_option maxRecDepth 100000 in
set_option maxHeartbeats 1000000 in
theorem odd_err5 (off spread : Int) (l : List Int) (h : 20 < l.length) (a : Option Addr) (cap : Nat) (w : World) (hr : IRow w a l) :
    Calls Try.prog 27 #[.slice a l.length cap, .int .i64 off, .int .i64 spread] w fun e w' => e = .returned (.tuple #[.slice none 0 0, .int .i64 5]) ∧ Gr w w' := by
  have d1 : decide (20 < (l.length : Int)) = true := by simp; omega
  have d2 : (20 : Int) < (l.length : Int) := by omega
  go_enter Try.func27, Try.ntmps27
  go_wp2
  exact bodyPost_ret (v := .tuple #[.slice none 0 0, .int .i64 5]) (by simp [results, Try.results27, go_sem]) rfl ⟨rfl, Below.refl _ _⟩

set_option maxRecDepth 100000 in
set_option maxHeartbeats 1000000 in
theorem odd_err3a (off spread : Int) (l : List Int) (h : l.length ≤ 20) (ho : inB 0 1000 [off] = false) (a : Option Addr) (cap : Nat) (w : World) (hr : IRow w a l) :
    Calls Try.prog 27 #[.slice a l.length cap, .int .i64 off, .int .i64 spread] w fun e w' => e = .returned (.tuple #[.slice none 0 0, .int .i64 3]) ∧ Gr w w' := by
  have d1 : decide (20 < (l.length : Int)) = false := by simp; omega
  have d2 : ¬ (20 : Int) < (l.length : Int) := by omega
  have HOF := Lib.hid ho
  clear ho
  go_enter Try.func27, Try.ntmps27
  go_wp2_with (first
    | (go_at_call 60; refine (goodOff_any off false HOF.out _).mono ?_; rintro e w1 ⟨rfl, g1⟩))
  exact bodyPost_ret (v := .tuple #[.slice none 0 0, .int .i64 3]) (by simp [results, Try.results27, go_sem]) rfl ⟨rfl, g1⟩

set_option maxRecDepth 100000 in
set_option maxHeartbeats 1000000 in
theorem odd_err3b (off spread : Int) (l : List Int) (h : l.length ≤ 20) (ho : inB 0 1000 [off] = true) (hs : inB 0 100000 [spread] = false) (a : Option Addr) (cap : Nat) (w : World) (hr : IRow w a l) :
    Calls Try.prog 27 #[.slice a l.length cap, .int .i64 off, .int .i64 spread] w fun e w' => e = .returned (.tuple #[.slice none 0 0, .int .i64 3]) ∧ Gr w w' := by
  have d1 : decide (20 < (l.length : Int)) = false := by simp; omega
  have d2 : ¬ (20 : Int) < (l.length : Int) := by omega
  have HOF := Lib.hid ho
  have HS := Lib.hid hs
  clear ho hs
  go_enter Try.func27, Try.ntmps27
  go_wp2_with (first
    | (go_at_call 60; refine (goodOff_any off true HOF.out _).mono ?_; rintro e w1 ⟨rfl, g1⟩)
    | (go_at_call 66; refine (within_any 0 100000 [spread] _ HS.out _ _ _ (IRow.new' _ 3 [spread] (by simp) _ (by simp) _ (by simp))).mono ?_; rintro e w3 ⟨rfl, hg⟩; have h3 := g1.tr (Gr.tr (Gr.al _ _) hg)))
  exact bodyPost_ret (v := .tuple #[.slice none 0 0, .int .i64 3]) (by simp [results, Try.results27, go_sem]) rfl ⟨rfl, h3⟩

set_option maxRecDepth 100000 in
set_option maxHeartbeats 1000000 in
theorem odd_err4 (off spread : Int) (l : List Int) (h : l.length ≤ 20) (ho : inB 0 1000 [off] = true) (hs : inB 0 100000 [spread] = true) (hl : inB 0 100000 l = false) (a : Option Addr) (cap : Nat) (w : World) (hr : IRow w a l) :
    Calls Try.prog 27 #[.slice a l.length cap, .int .i64 off, .int .i64 spread] w fun e w' => e = .returned (.tuple #[.slice none 0 0, .int .i64 4]) ∧ Gr w w' := by
  have d1 : decide (20 < (l.length : Int)) = false := by simp; omega
  have d2 : ¬ (20 : Int) < (l.length : Int) := by omega
  have HOF := Lib.hid ho
  have HS := Lib.hid hs
  have HL := Lib.hid hl
  clear ho hs hl
  go_enter Try.func27, Try.ntmps27
  go_wp2_with (first
    | (go_at_call 60; refine (goodOff_any off true HOF.out _).mono ?_; rintro e w1 ⟨rfl, g1⟩)
    | (go_at_call 66; refine (within_any 0 100000 [spread] _ HS.out _ _ _ (IRow.new' _ 3 [spread] (by simp) _ (by simp) _ (by simp))).mono ?_; rintro e w3 ⟨rfl, hg⟩; have h3 := g1.tr (Gr.tr (Gr.al _ _) hg))
    | (go_at_call 61; refine (goodReadings_any l false HL.out a cap _ (hr.grow h3)).mono ?_; rintro e w4 ⟨rfl, g4⟩))
  exact bodyPost_ret (v := .tuple #[.slice none 0 0, .int .i64 4]) (by simp [results, Try.results27, go_sem]) rfl ⟨rfl, h3.tr g4⟩

set_option maxRecDepth 100000 in
set_option maxHeartbeats 4000000 in
theorem crushOdds_any (l : List Int) (off spread : Int) (la : Option Addr) (lc : Nat) (w : World) (rl : IRow w la l) :
    Calls Try.prog 4 #[.slice la l.length lc, .int .i64 off, .int .i64 spread] w fun e w' => e = .returned (.bool true) ∧ Gr w w' := by
  have hl0 := rl.1
  have HSa : Hid (∀ (a b : Option Addr) (c d : Nat) (m : List Int) (W : World), IRow W a m → IRow W b m → Calls Try.prog 22 #[.slice a m.length c, .slice b m.length d] W fun e w' => e = .returned (.bool true) ∧ Gr W w') := Lib.hid (fun a b c d m W h1 h2 => by
    have := same_any m m a b c d W h1 h2
    simpa using this)
  have hb1 : ∀ x : Int, inB 0 1000 [x] = in1 0 1000 x := fun x => by simp [inB]
  have hb2 : ∀ x : Int, inB 0 100000 [x] = in1 0 100000 x := fun x => by simp [inB]
  by_cases h20 : 20 < l.length
  · have d0 : decide ((20 : Int) < (l.length : Int)) = true := by simp; omega
    have d0' : (20 : Int) < (l.length : Int) := by omega
    by_cases h30 : 30 < l.length
    · have d1 : decide ((30 : Int) < (l.length : Int)) = true := by simp; omega
      have d1' : (30 : Int) < (l.length : Int) := by omega
      have tok0 : True := trivial
      go_enter Try.func4, Try.ntmps4
      go_wp2_with (first
        | (go_at_call 16; refine (known_any _).mono ?_; rintro e w9 ⟨rfl, g9⟩))
      go_ret
      exact ⟨rfl, g9⟩
    · have d1 : decide ((30 : Int) < (l.length : Int)) = false := by simp; omega
      have d1' : ¬ (30 : Int) < (l.length : Int) := by omega
      have HOd := Lib.hid (fun (a : Option Addr) (c : Nat) (W : World) (h : IRow W a l) => odd_err5 off spread l h20 a c W h)
      have tok0 : True := trivial
      go_enter Try.func4, Try.ntmps4
      go_wp2_with (first
        | (go_at_call 17; refine (lints_gen l (by omega) la lc _ (rl.grow (Below.refl _ _))).mono ?_; rintro e w5 ⟨a5, c5, rfl, r5, _, _, g5⟩)
        | (go_at_call 27; refine (HOd.out a5 c5 _ r5).mono ?_; rintro e w6 ⟨rfl, g6⟩)
        | (go_at_call 22; refine (HSa.out a5 la c5 lc l _ (r5.grow g6) (rl.grow (g5.tr g6))).mono ?_; rintro e w7 ⟨rfl, g7⟩)
        | (go_at_call 16; refine (known_any _).mono ?_; rintro e w9 ⟨rfl, g9⟩))
      go_ret
      exact ⟨rfl, g5.tr (g6.tr (g7.tr g9))⟩
  have d0 : decide ((20 : Int) < (l.length : Int)) = false := by simp; omega
  have d0' : ¬ (20 : Int) < (l.length : Int) := by omega
  have d1 : decide ((30 : Int) < (l.length : Int)) = false := by simp; omega
  have d1' : ¬ (30 : Int) < (l.length : Int) := by omega
  have h20' : l.length ≤ 20 := by omega
  clear h20
  cases c1 : in1 0 1000 off with
  | false =>
    have HOd := Lib.hid (fun (a : Option Addr) (c : Nat) (W : World) (h : IRow W a l) => odd_err3a off spread l h20' (by rw [hb1]; exact c1) a c W h)
    have C1 := Lib.hid c1
    clear c1 hb1 hb2
    have tok0 : True := trivial
    go_enter Try.func4, Try.ntmps4
    go_wp2_with (first
      | (have _t := tok0; clear tok0 _t; go_at_call 25; refine (refIn_any off 0 1000 false C1.out _).mono ?_; rintro e w1 ⟨rfl, g1⟩)
      | (go_at_call 17; refine (lints_gen l (by omega) la lc _ (rl.grow g1)).mono ?_; rintro e w5 ⟨a5, c5, rfl, r5, _, _, g5⟩)
      | (go_at_call 27; refine (HOd.out a5 c5 _ r5).mono ?_; rintro e w6 ⟨rfl, g6⟩)
      | (go_at_call 22; refine (HSa.out a5 la c5 lc l _ (r5.grow g6) (rl.grow (g1.tr (g5.tr g6)))).mono ?_; rintro e w7 ⟨rfl, g7⟩)
      | (go_at_call 16; refine (known_any _).mono ?_; rintro e w9 ⟨rfl, g9⟩))
    go_ret
    exact ⟨rfl, g1.tr (g5.tr (g6.tr (g7.tr g9)))⟩
  | true =>
    have C1 := Lib.hid c1
    cases c2 : in1 0 100000 spread with
    | false =>
      have HOd := Lib.hid (fun (a : Option Addr) (c : Nat) (W : World) (h : IRow W a l) => odd_err3b off spread l h20' (by rw [hb1]; exact c1) (by rw [hb2]; exact c2) a c W h)
      have C2 := Lib.hid c2
      clear c1 c2 hb1 hb2
      have tok0 : True := trivial
      go_enter Try.func4, Try.ntmps4
      go_wp2_with (first
        | (have _t := tok0; clear tok0 _t; go_at_call 25; refine (refIn_any off 0 1000 true C1.out _).mono ?_; rintro e w1 ⟨rfl, g1⟩)
        | (go_at_call 25; refine (refIn_any spread 0 100000 false C2.out _).mono ?_; rintro e w2 ⟨rfl, g2⟩)
        | (go_at_call 17; refine (lints_gen l (by omega) la lc _ (rl.grow (g1.tr g2))).mono ?_; rintro e w5 ⟨a5, c5, rfl, r5, _, _, g5⟩)
        | (go_at_call 27; refine (HOd.out a5 c5 _ r5).mono ?_; rintro e w6 ⟨rfl, g6⟩)
        | (go_at_call 22; refine (HSa.out a5 la c5 lc l _ (r5.grow g6) (rl.grow ((g1.tr g2).tr (g5.tr g6)))).mono ?_; rintro e w7 ⟨rfl, g7⟩)
        | (go_at_call 16; refine (known_any _).mono ?_; rintro e w9 ⟨rfl, g9⟩))
      go_ret
      exact ⟨rfl, (g1.tr g2).tr (g5.tr (g6.tr (g7.tr g9)))⟩
    | true =>
      have C2 := Lib.hid c2
      cases c3 : inB 0 100000 l with
      | false =>
        have HOd := Lib.hid (fun (a : Option Addr) (c : Nat) (W : World) (h : IRow W a l) => odd_err4 off spread l h20' (by rw [hb1]; exact c1) (by rw [hb2]; exact c2) c3 a c W h)
        have C3 := Lib.hid c3
        clear c1 c2 c3 hb1 hb2
        have tok0 : True := trivial
        go_enter Try.func4, Try.ntmps4
        go_wp2_with (first
          | (have _t := tok0; clear tok0 _t; go_at_call 25; refine (refIn_any off 0 1000 true C1.out _).mono ?_; rintro e w1 ⟨rfl, g1⟩)
          | (go_at_call 25; refine (refIn_any spread 0 100000 true C2.out _).mono ?_; rintro e w2 ⟨rfl, g2⟩)
          | (go_at_call 26; refine (refReadings_any l false C3.out la lc _ (rl.grow (g1.tr g2))).mono ?_; rintro e w3 ⟨rfl, g3⟩)
          | (go_at_call 17; refine (lints_gen l (by omega) la lc _ (rl.grow (g1.tr (g2.tr g3)))).mono ?_; rintro e w5 ⟨a5, c5, rfl, r5, _, _, g5⟩)
          | (go_at_call 27; refine (HOd.out a5 c5 _ r5).mono ?_; rintro e w6 ⟨rfl, g6⟩)
          | (go_at_call 22; refine (HSa.out a5 la c5 lc l _ (r5.grow g6) (rl.grow ((g1.tr (g2.tr g3)).tr (g5.tr g6)))).mono ?_; rintro e w7 ⟨rfl, g7⟩)
          | (go_at_call 16; refine (known_any _).mono ?_; rintro e w9 ⟨rfl, g9⟩))
        go_ret
        exact ⟨rfl, (g1.tr (g2.tr g3)).tr (g5.tr (g6.tr (g7.tr g9)))⟩
      | true =>
        have C3 := Lib.hid c3
        by_cases h10 : 10 < l.length
        · have d2 : decide ((10 : Int) < (l.length : Int)) = true := by simp; omega
          have d2' : (10 : Int) < (l.length : Int) := by omega
          clear c1 c2 c3 hb1 hb2
          have tok0 : True := trivial
          go_enter Try.func4, Try.ntmps4
          go_wp2_with (first
            | (have _t := tok0; clear tok0 _t; go_at_call 25; refine (refIn_any off 0 1000 true C1.out _).mono ?_; rintro e w1 ⟨rfl, g1⟩)
            | (go_at_call 25; refine (refIn_any spread 0 100000 true C2.out _).mono ?_; rintro e w2 ⟨rfl, g2⟩)
            | (go_at_call 26; refine (refReadings_any l true C3.out la lc _ (rl.grow (g1.tr g2))).mono ?_; rintro e w3 ⟨rfl, g3⟩)
            | (go_at_call 16; refine (known_any _).mono ?_; rintro e w9 ⟨rfl, g9⟩))
          go_ret
          exact ⟨rfl, (g1.tr (g2.tr g3)).tr g9⟩
        · have d2 : decide ((10 : Int) < (l.length : Int)) = false := by simp; omega
          have d2' : ¬ (10 : Int) < (l.length : Int) := by omega
          have hoo : 0 ≤ off ∧ off ≤ 1000 := by simpa [in1] using c1
          have hss : 0 ≤ spread ∧ spread ≤ 100000 := by simpa [in1] using c2
          have hll : ∀ r ∈ l, 0 ≤ r ∧ r ≤ 100000 := fun r hr => by
            have := List.all_eq_true.1 c3 r hr
            simpa [in1] using this
          have hod := fun (a : Option Addr) (c : Nat) (W : World) (h : IRow W a l) => oddF_ok off spread l h20' (by rw [hb1]; exact c1) (by rw [hb2]; exact c2) c3 a c W h
          have hro := fun (W : World) (g : Gr w W) => refOdd_any l (by omega) off spread hll hoo.1 hoo.2 hss.1 la lc W (rl.grow g)
          obtain ⟨OL, hOL⟩ : ∃ L, intsN (oddTo off spread l l.length) = L := ⟨_, rfl⟩
          rw [hOL] at hod hro
          have HOd := Lib.hid hod
          have HRo := Lib.hid hro
          clear hod hro hOL c1 c2 c3 hb1 hb2 hll
          have tok1 : True := trivial
          have tok0 : True := trivial
          go_enter Try.func4, Try.ntmps4
          go_wp2_with (first
            | (have _t := tok0; clear tok0 _t; go_at_call 25; refine (refIn_any off 0 1000 true C1.out _).mono ?_; rintro e w1 ⟨rfl, g1⟩)
            | (go_at_call 25; refine (refIn_any spread 0 100000 true C2.out _).mono ?_; rintro e w2 ⟨rfl, g2⟩)
            | (go_at_call 26; refine (refReadings_any l true C3.out la lc _ (rl.grow (g1.tr g2))).mono ?_; rintro e w3 ⟨rfl, g3⟩)
            | (go_at_call 17; refine (lints_gen l (by omega) la lc _ (rl.grow (g1.tr (g2.tr g3)))).mono ?_; rintro e w5 ⟨a5, c5, rfl, r5, _, _, g5⟩)
            | (go_at_call 27; refine (HOd.out a5 c5 _ r5).mono ?_; rintro e w6 ⟨b6, d6, rfl, r6, g6⟩)
            | (have _t := tok1; clear tok1 _t; go_at_call 22; refine (HSa.out a5 la c5 lc l _ (r5.grow g6) (rl.grow ((g1.tr (g2.tr g3)).tr (g5.tr g6)))).mono ?_; rintro e w7 ⟨rfl, g7⟩)
            | (go_at_call 28; refine (HRo.out _ ((g1.tr (g2.tr g3)).tr (g5.tr (g6.tr g7)))).mono ?_; rintro e w8 ⟨b8, d8, rfl, r8, g8⟩)
            | (go_at_call 22; refine (HSa.out b6 b8 d6 d8 OL _ (r6.grow (g7.tr g8)) r8).mono ?_; rintro e w10 ⟨rfl, g10⟩)
            | (go_at_call 16; refine (known_any _).mono ?_; rintro e w9 ⟨rfl, g9⟩))
          go_ret
          exact ⟨rfl, (g1.tr (g2.tr g3)).tr (g5.tr (g6.tr (g7.tr (g8.tr (g10.tr g9)))))⟩

end Go.Proofs.Ytjdeojpapdphoaa

namespace Go.Proofs.Ytjdeojpapdphoaa
set_option linter.unusedVariables false
set_option linter.unusedSimpArgs false
open Go.RowKit Go.ChangeShapes

section
variable {H : Type} {enc : TypeId × Value → H} {P : Program} {W W' : World}

theorem trodAll_stays (hl : laidOutB P = true) (g : Gr W W') {sp : Nat → Bool} : ∀ (ts : List TypeId) (vs : List Value) (ds : List (DataW H)) (ps : List MemPlace), (∀ t ∈ ts, P.readableRec t = true ∧ t < P.types.size) →
    DataW.TrodAll enc P W 0 (fun _ => true) true ts vs ds ps → (∀ p ∈ ps, p.block < W.heap.size) → (∀ p ∈ ps, sp p.block = true) → DataW.TrodAll enc P W' 0 sp true ts vs ds ps
  | [], [], [], _, _, h, _, _ => h
  | t :: ts, v :: vs, d :: ds, ps, ht, h, hlt, hsp => by
    obtain ⟨p, q, h1, h2, rfl⟩ := h
    exact ⟨p, q, WideElems.Trod_stays hl (ht t (by simp)).1 (ht t (by simp)).2 h1 (fun x hx => g.same (hlt x (by simp [hx]))) (fun x hx => hsp x (by simp [hx])),
      trodAll_stays hl g ts vs ds q (fun u hu => ht u (by simp [hu])) h2 (fun x hx => hlt x (by simp [hx])) (fun x hx => hsp x (by simp [hx])), rfl⟩

/-- A law that returned true in a world that only grew, its arguments as they were. -/
theorem law_true {f : Func} {s : ChangeSpec} {bt : TypeId} {args : Array Value} {ds : List (DataW H)} {p : List MemPlace}
    (hl : laidOutB P = true) (hpt : ∀ t ∈ f.params.toList, P.readableRec t = true ∧ t < P.types.size) (hbt : P.underlying bt = some .bool) (hrt : f.resultTypes = #[bt]) (hsv : s.vars = [])
    (hs : s.fn H ds = { results := [.lit (.bool true)], args := ds })
    (hW : DataW.Whole enc P f.params.toList s.vars false W args.toList ds [] p) (g : Gr W W') :
    s.post enc P f false true false false W args (.bool true) W' := by
  have hW0 := hW
  obtain ⟨pa, pv, hA, hV, hp, hfz, hnd⟩ := hW0
  rw [hsv] at hV
  have hpv : pv = [] := hV
  subst hpv
  rw [List.append_nil] at hp
  subst hp
  have hold : ∀ x ∈ p, x.block < W.heap.size := fun x hx => hW.lt x hx
  have hargs : ∀ sp : Nat → Bool, (∀ x ∈ p, sp x.block = true) → DataW.TrodAll enc P W' 0 sp true f.params.toList args.toList ds p := fun sp hsp => trodAll_stays hl g _ _ _ _ hpt hA hold hsp
  have hres : ∀ (b : Nat) (sp : Nat → Bool) (hd : Bool), DataW.TrodAll enc P W' b sp hd f.resultTypes.toList ((Value.bool true).resultList f.resultTypes.size) [.lit (.bool true)] [] := fun b sp hd => by
    rw [hrt]
    exact trodAll_cons_mk (shut_bool hbt _) trodAll_mk0
  have hok : ∀ (j : Nat) (t : TypeId) (r : Value), f.resultTypes[j]? = some t → ((Value.bool true).resultList f.resultTypes.size)[j]? = some r → Value.okWide P W' .any 0 t r := ok_one hrt rfl (okWide_bool_mk hbt _)
  have es : s.fn H (ds ++ []) = { results := [.lit (.bool true)], args := ds } := by rw [List.append_nil]; exact hs
  have hsp0 : ∀ x ∈ p, (fun b => decide (b < W.heap.size)) x.block = true := fun x hx => by simpa using hold x hx
  refine ⟨ds, [], p, [], p, [], hW, ?_, ?_, ?_, World.keptBut_mono (fun x hx => hx.elim) (g.frame (fun _ => False)), fun _ => ?_⟩
  · rw [es]; exact hres _ _ _
  · rw [es]; exact hargs _ hsp0
  · rw [es, hsv]; rfl
  · refine ⟨hok, [.lit (.bool true)] ++ ds, [], ([] ++ p) ++ [], ⟨[] ++ p, [], trodAll_append (hargs (fun _ => true) (fun _ _ => rfl)) (hres _ _ _), ?_, rfl, ?_, ?_⟩, ?_⟩
    · rw [hsv]; rfl
    · intro b off hx
      have hx' : MemPlace.cell b off ∈ p := by simpa using hx
      have hb : b < W.heap.size := hold _ hx'
      rw [g.frozen (p := ⟨b, off, none⟩) hb]
      exact hfz b off hx'
    · intro ha
      cases ha
    · intro x hx _
      simpa using hx

/-- Made of integers of kind k alone, cell by cell: by looking. -/
def allK (P : Program) (k : IntKind) : Nat → TypeId → Bool
  | 0, _ => false
  | f + 1, t => match P.underlying t with
    | some (.int k') => decide (k' = k) && decide (P.cellsOf t = 1)
    | some (.struct fs) => fs.toList.all (fun x => allK P k f x.type) && (List.range (P.cellsOf t)).all fun i => fs.toList.any fun x => decide (x.offset ≤ i) && decide (i < x.offset + P.cellsOf x.type)
    | some (.array n e) => allK P k f e && (List.range (P.cellsOf t)).all fun i => (List.range n).any fun j => decide (j * P.cellsOf e ≤ i) && decide (i < j * P.cellsOf e + P.cellsOf e)
    | _ => false

theorem piece {cs : List Value} {o n i : Nat} (h1 : o ≤ i) (h2 : i < o + n) : ((cs.drop o).take n)[i - o]? = cs[i]? := by
  rw [List.getElem?_take_of_lt (by omega), List.getElem?_drop, show o + (i - o) = i by omega]

theorem mapM_at {α β : Type} {f : α → Option β} : ∀ (l : List α) (ys : List β), l.mapM f = some ys → ∀ a ∈ l, ∃ y, f a = some y
  | [], _, _, a, ha => by cases ha
  | b :: l, ys, h, a, ha => by
    rw [List.mapM_cons] at h
    cases h1 : f b with
    | none => simp [h1] at h
    | some y =>
      cases h2 : l.mapM f with
      | none => simp [h1, h2] at h
      | some zs =>
        rcases List.mem_cons.1 ha with rfl | ha
        · exact ⟨y, h1⟩
        · exact mapM_at l zs h2 a ha

theorem int_open {k : IntKind} {base : Nat} {sp : Nat → Bool} {held : Bool} {t : TypeId} (hu : P.underlying t = some (.int k)) {fuel : Nat} {cs : List Value} {x : DataW H × List MemPlace} (hx : DataW.trod enc P W base sp held fuel t cs = some x) :
    ∃ n, cs = [.int k n] ∧ (Lit.int k n).wf = true := by
  obtain ⟨n, e, _, hw⟩ := DataW.trod_int hu hx
  exact ⟨n, e, hw⟩

theorem allK_open {k : IntKind} {base : Nat} {sp : Nat → Bool} {held : Bool} : ∀ (f : Nat) (t : TypeId), allK P k f t = true → ∀ (fuel : Nat) (cs : List Value) (x : DataW H × List MemPlace), DataW.trod enc P W base sp held fuel t cs = some x →
    cs.length = P.cellsOf t ∧ ∀ i, i < cs.length → ∃ n, cs[i]? = some (.int k n) ∧ (Lit.int k n).wf = true
  | 0, _, h, _, _, _, _ => by simp [allK] at h
  | f + 1, t, h, 0, cs, x, hx => by simp [DataW.trod] at hx
  | f + 1, t, h, fuel + 1, cs, x, hx => by
    unfold allK at h
    split at h
    · rename_i k' hu
      simp only [Bool.and_eq_true, decide_eq_true_eq] at h
      obtain ⟨rfl, hc⟩ := h
      obtain ⟨n, rfl, hw⟩ := int_open hu hx
      refine ⟨by rw [hc]; rfl, fun i hi => ?_⟩
      obtain rfl : i = 0 := by simpa using hi
      exact ⟨n, rfl, hw⟩
    · rename_i fs hu
      simp only [Bool.and_eq_true] at h
      obtain ⟨ha, hcov⟩ := h
      unfold DataW.trod at hx
      rw [hu] at hx
      simp only at hx
      split at hx
      case isFalse => cases hx
      rename_i hl
      refine ⟨hl, fun i hi => ?_⟩
      obtain ⟨xs, hxs, _⟩ := Option.map_eq_some_iff.1 hx
      have hci := List.all_eq_true.1 hcov i (by simp; omega)
      obtain ⟨fd, hfd, hin⟩ := List.any_eq_true.1 hci
      simp only [Bool.and_eq_true, decide_eq_true_eq] at hin
      obtain ⟨y, hy⟩ := mapM_at _ _ hxs fd hfd
      obtain ⟨hl', hat⟩ := allK_open f fd.type (List.all_eq_true.1 ha fd hfd) fuel _ y hy
      obtain ⟨n, hn, hw⟩ := hat (i - fd.offset) (by rw [hl']; omega)
      rw [piece hin.1 hin.2] at hn
      exact ⟨n, hn, hw⟩
    · rename_i m e hu
      simp only [Bool.and_eq_true] at h
      obtain ⟨ha, hcov⟩ := h
      unfold DataW.trod at hx
      rw [hu] at hx
      simp only at hx
      split at hx
      case isFalse => cases hx
      rename_i hl
      refine ⟨hl, fun i hi => ?_⟩
      obtain ⟨xs, hxs, _⟩ := Option.map_eq_some_iff.1 hx
      have hci := List.all_eq_true.1 hcov i (by simp; omega)
      obtain ⟨j, hj, hin⟩ := List.any_eq_true.1 hci
      simp only [Bool.and_eq_true, decide_eq_true_eq] at hin
      obtain ⟨y, hy⟩ := mapM_at _ _ hxs j hj
      obtain ⟨hl', hat⟩ := allK_open f e ha fuel _ y hy
      obtain ⟨n, hn, hw⟩ := hat (i - j * P.cellsOf e) (by rw [hl']; omega)
      rw [piece hin.1 hin.2] at hn
      exact ⟨n, hn, hw⟩
    · cases h

theorem ints_of {k : IntKind} : ∀ (cs : List Value), (∀ i, i < cs.length → ∃ n, cs[i]? = some (.int k n) ∧ (Lit.int k n).wf = true) → ∃ l : List Int, cs = l.map (Value.int k) ∧ ∀ n ∈ l, (Lit.int k n).wf = true
  | [], _ => ⟨[], rfl, by simp⟩
  | c :: cs, h => by
    obtain ⟨n, hn, hw⟩ := h 0 (by simp)
    obtain ⟨l, rfl, hl⟩ := ints_of cs (fun i hi => by simpa using h (i + 1) (by simpa using hi))
    simp only [List.getElem?_cons_zero, Option.some.injEq] at hn
    subst hn
    refine ⟨n :: l, rfl, fun m hm => ?_⟩
    rcases List.mem_cons.1 hm with rfl | hm
    · exact hw
    · exact hl m hm

/-- A struct or array by value, of integers of one kind: its integers. -/
theorem agg_ints {k : IntKind} {base : Nat} {sp : Nat → Bool} {held : Bool} {f : Nat} {t : TypeId} (ha : allK P k f t = true) (hc : P.cellsOf t ≠ 1) {v : Value} {d : DataW H} {ps : List MemPlace} (h : DataW.Trod enc P W base sp held t v d ps) :
    ∃ l : List Int, v = .agg (l.map (Value.int k)).toArray ∧ l.length = P.cellsOf t ∧ ∀ n ∈ l, (Lit.int k n).wf = true := by
  obtain ⟨fuel, hf⟩ := h
  obtain ⟨hl, hat⟩ := allK_open f t ha fuel _ _ hf
  obtain ⟨l, hcs, hw⟩ := ints_of _ hat
  have hlen : l.length = P.cellsOf t := by rw [← hl, hcs]; simp
  refine ⟨l, ?_, hlen, hw⟩
  unfold Value.cells at hcs hl
  split at hcs
  · rename_i cs
    rw [← hcs]
  · rename_i hna
    exfalso
    apply hc
    rw [← hlen]
    have := congrArg List.length hcs
    simpa using this.symm

/-- A slice of bytes that came in. -/
theorem row_bytes {e : TypeId} {t : TypeId} {r : Reach} {b0 : Nat} (ht : P.underlying t = some (.slice e)) (he : P.underlying e = some (.int .u8)) (hc : P.cellsOf e = 1) {v : Value} {d : DataW H} {ps : List MemPlace} (hval : Value.okWide P W r b0 t v)
    (h : DataW.Trod enc P W 0 (fun _ => true) true t v d ps) :
    ∃ (a : Option Addr) (l : List Int) (cap : Nat), v = .slice a l.length cap ∧ URow W a l ∧ Bytes l := by
  obtain ⟨fuel, hf⟩ := h
  obtain ⟨a0, len0, cap0, rfl⟩ := Go.WideShapes.okWide_slice ht hval
  rcases open_ints ht he hc hf with ⟨hcs, _⟩ | ⟨a, len, cap, zs, hcs, _, hle, hmax, hlen, _, hcell, hwf⟩
  · have hcs' : [Value.slice a0 len0 cap0] = [.slice none 0 0] := by simpa [Value.cells] using hcs
    cases hcs'
    exact ⟨none, [], 0, rfl, RowOf.nil, fun x hx => by cases hx⟩
  · have hcs' : [Value.slice a0 len0 cap0] = [.slice (some a) len cap] := by simpa [Value.cells] using hcs
    cases hcs'
    simp only [if_true] at hlen
    have hl : (zs.take len0).length = len0 := by simp; omega
    refine ⟨some a, zs.take len0, cap0, by rw [hl], ⟨by rw [hl]; exact Nat.le_trans hle hmax, fun j x hx => ?_⟩, fun x hx => bounds_u8 (hwf x (List.mem_of_mem_take hx))⟩
    have hj : j < len0 := by
      have := (List.getElem?_eq_some_iff.1 hx).1
      omega
    have hz : zs[j]? = some x := by
      rw [List.getElem?_take_of_lt hj] at hx
      exact hx
    have h0 := hcell 0 (by omega)
    rw [show a.add 0 = a by simp [Addr.add]] at h0
    have hb := World.block_lt_of_cell? W _ h0
    have hs : a.spot = none := by
      cases hsp : a.spot with
      | none => rfl
      | some q =>
        exfalso
        unfold World.cell? at h0
        split at h0
        · simp [hsp] at h0
        · cases h0
    obtain ⟨b, off, sp⟩ := a
    simp only at hs
    subst hs
    have h1 := hcell j (by omega)
    have e1 : zs.getD j 0 = x := by simp [hz]
    rw [e1, show (Addr.mk b off none).add j = ⟨b, off + j, none⟩ by unfold Addr.add; split <;> simp_all] at h1
    refine ⟨b, off, rfl, hb, fun i v hv => ?_⟩
    have hi : i = 0 := by
      have := (List.getElem?_eq_some_iff.1 hv).1
      simpa [encU] using this
    subst hi
    simp [encU] at hv
    subst hv
    simpa using h1

end

end Go.Proofs.Ytjdeojpapdphoaa

namespace Go.Proofs.Ytjdeojpapdphoaa
set_option linter.unusedVariables false
set_option linter.unusedSimpArgs false
open Go.RowKit

/-- A board is handed back. -/
def MadePost (mp mf : List Int) (w : World) (e : Ending) (w' : World) : Prop := ∃ a ac g gc, e = .returned (.agg #[.slice a mp.length ac, .slice g mf.length gc]) ∧ Gr w w' ∧ IRow w' a mp ∧ IRow w' g mf ∧ NewAt w.heap.size a ∧ NewAt w.heap.size g

/-- A blank is handed back. -/
def BlankPost (tab hei slo : Int) (pan top bot : List Int) (opn : Bool) (w : World) (e : Ending) (w' : World) : Prop :=
  ∃ pa pc ta tc ba bc, e = .returned (.agg #[.int .i64 tab, .slice pa pan.length pc, .int .i64 hei, .slice ta top.length tc, .slice ba bot.length bc, .int .i64 slo, .bool opn]) ∧ Gr w w' ∧ IRow w' pa pan ∧ IRow w' ta top ∧ IRow w' ba bot ∧ NewAt w.heap.size pa ∧ NewAt w.heap.size ta ∧ NewAt w.heap.size ba

end Go.Proofs.Ytjdeojpapdphoaa

namespace Go.Proofs.Ytjdeojpapdphoaa
set_option linter.unusedVariables false
set_option linter.unusedSimpArgs false
open Go.RowKit

/-- A store is handed back. -/
def StorePost (ps : List Paper) (fs : List Flute) (w : World) (e : Ending) (w' : World) : Prop := ∃ a ac g gc, e = .returned (.agg #[.slice a ps.length ac, .slice g fs.length gc]) ∧ Gr w w' ∧ PRow w' a ps ∧ FRow w' g fs ∧ NewAt w.heap.size a ∧ NewAt w.heap.size g

theorem ne_of_at {x y g H : Nat} (h : some x = some g ∨ g = H) (hx : x ≠ y) (hH : H ≠ y) : g ≠ y := by
  rcases h with h | h
  · injection h with h
    omega
  · omega

theorem oneP (x : Paper) : ∀ u ∈ encP x, u.oneCell' = true := by
  intro u hu
  simp only [encP, List.mem_cons, List.not_mem_nil, or_false] at hu
  rcases hu with rfl | rfl | rfl | rfl | rfl | rfl | rfl | rfl <;> rfl

theorem oneF (x : Flute) : ∀ u ∈ encF x, u.oneCell' = true := by
  intro u hu
  simp only [encF, List.mem_cons, List.not_mem_nil, or_false] at hu
  rcases hu with rfl | rfl | rfl | rfl <;> rfl

theorem Own.grownRow {w w' : World} {b : Nat} {vs : List Value} {row : Option Nat} (h : Own w b vs) (g : w.grownBy w' row) (hne : ∀ r, row = some r → b ≠ r) : Own w' b vs := by
  have hb := g.block b h.1.1 (fun e => hne b e.symm rfl)
  exact ⟨⟨Nat.lt_of_lt_of_le h.1.1 g.size, fun i v hv => (World.cell?_of_block (w := w) (a := ⟨b, i, none⟩) hb).trans (h.1.2 i v hv)⟩, fun i => (World.frozen?_of_block (w := w) (a := ⟨b, i, none⟩) hb).trans (h.2 i)⟩

end Go.Proofs.Ytjdeojpapdphoaa

namespace Go.Proofs.Ytjdeojpapdphoaa
set_option linter.unusedVariables false
set_option linter.unusedSimpArgs false
open Go.RowKit

def HeldP (b : Nat) (y0 y1 y2 y3 : Int) (c : Nat) (pv : Value) (w' : World) : Prop := w'.cell? ⟨b, 0, none⟩ = some (.int .u8 y0) ∧ w'.cell? ⟨b, 1, none⟩ = some (.int .u8 y1) ∧ w'.cell? ⟨b, 2, none⟩ = some (.int .u8 y2) ∧ w'.cell? ⟨b, 3, none⟩ = some (.int .u8 y3) ∧ w'.cell? ⟨c, 0, none⟩ = some pv

def HeldF (b : Nat) (y2 : Int) (c : Nat) (pv : Value) (w' : World) : Prop := w'.cell? ⟨b, 2, none⟩ = some (.int .u8 y2) ∧ w'.cell? ⟨c, 1, none⟩ = some pv

def fpaper (v0 v1 v2 v3 : Int) (k : Int) : Paper := ⟨1 + k % 2, 80 + v0, 100 + v1, 100 + v1 + v2 % 60, v3 % 90, v3 % 90 + v2 % 20, 2000 * v0, 5 * v1⟩

def fflute (v0 v1 v2 : Int) : Flute := ⟨2000 + 20 * v0, 2000 + 20 * v0 + (2000 + 20 * v0) * v2 / 400, 1000 + 8 * v1, 1000 + 8 * v1 + v2 % 200⟩

def storeP (x0 x1 x2 x3 x4 x5 x6 x7 x8 x9 x10 x11 : Int) : List Paper := [fpaper x0 x1 x2 x3 0, fpaper x4 x5 x6 x7 1, fpaper x8 x9 x10 x11 2]

def storeF (x12 x13 x14 x15 x16 x17 : Int) : List Flute := [fflute x12 x13 x14, fflute x15 x16 x17]

def Byt (n : Int) : Prop := 0 ≤ n ∧ n ≤ 255

theorem owns_other {w : World} {base : Nat} {e : TypeId} {sz : Nat} {v : Value} {n : Nat} {xs : List Value} {c i : Nat} {u : Value} (h : w.ownsRow base e sz v n xs) (hc : c < base) : (w.setCell ⟨c, i, none⟩ u).ownsRow base e sz v n xs := by
  obtain ⟨h1, h2⟩ := h
  refine ⟨h1, ?_⟩
  rcases h2 with h2 | ⟨b, cap, cur, hv, hb, hh, r⟩
  · exact .inl h2
  · exact .inr ⟨b, cap, cur, hv, hb, (Below.heap_setCell _ _ _ _ (show b ≠ c by omega)).trans hh, r⟩

theorem Box.c3 {w : World} {b : Nat} {x0 x1 x2 : Value} (h : Box w b [x0, x1, x2]) : w.cell? ⟨b, 0, none⟩ = some x0 ∧ w.cell? ⟨b, 1, none⟩ = some x1 ∧ w.cell? ⟨b, 2, none⟩ = some x2 := ⟨h.2 0 x0 rfl, h.2 1 x1 rfl, h.2 2 x2 rfl⟩

theorem Box.other {w : World} {b c i : Nat} {vs : List Value} {v : Value} (h : Box w c vs) (hne : c ≠ b) : Box (w.setCell ⟨b, i, none⟩ v) c vs :=
  ⟨by simpa using h.1, fun j u hu => by rw [cell_set_ne v (.inl hne)]; exact h.2 j u hu⟩

end Go.Proofs.Ytjdeojpapdphoaa

namespace Go.Proofs.Ytjdeojpapdphoaa
set_option linter.unusedVariables false
set_option linter.unusedSimpArgs false
open Go.RowKit

structure V6 where
  a : Int
  b : Int
  c : Int
  d : Int
  e : Int
  f : Int

structure V3 where
  a : Int
  b : Int
  c : Int

def encV6 (v : V6) : List Value := [.int .u8 v.a, .int .u8 v.b, .int .u8 v.c, .int .u8 v.d, .int .u8 v.e, .int .u8 v.f]

def encV3 (v : V3) : List Value := [.int .u8 v.a, .int .u8 v.b, .int .u8 v.c]

abbrev Row6 := RowOf 6 encV6

abbrev Row3 := RowOf 3 encV3

def isB (n : Int) : Prop := 0 ≤ n ∧ n ≤ 255

def B6 (v : V6) : Prop := isB v.a ∧ isB v.b ∧ isB v.c ∧ isB v.d ∧ isB v.e ∧ isB v.f

def B3 (v : V3) : Prop := isB v.a ∧ isB v.b ∧ isB v.c

def npW (n : Nat) : Nat := if n ≤ 2 then 2 else if n ≤ 5 then n else 5

def nfW (n : Nat) : Nat := if n = 0 then 1 else if n ≤ 3 then n else 3

def wareP (P : List V6) (i : Nat) : V6 := match P[i]? with | some v => v | none => ⟨i, 120, 20, 7, 30, 20⟩

def wareF (F : List V3) (i : Nat) : V3 := match F[i]? with | some v => v | none => ⟨80, 128, 36⟩

def paperW (k : Nat) (v : V6) : Paper := ⟨if 1 < k then 1 + v.a % 2 else 1 + k, 50 + v.b, 50 + v.c, 50 + v.c + v.a / 8, v.d % 100, v.d % 100 + v.d / 16, 1000 * v.e, 10 * v.f⟩

def fluteW (v : V3) : Flute := ⟨1000 + 35 * v.a, 1000 + 35 * v.a + (1000 + 35 * v.a) * v.b / 255, 500 + 10 * v.c, 500 + 10 * v.c + v.b % 90⟩

def storeWP (P : List V6) : List Paper := (List.range (npW P.length)).map fun i => paperW i (wareP P i)

def storeWF (F : List V3) : List Flute := (List.range (nfW F.length)).map fun i => fluteW (wareF F i)

theorem storeWP_len (P : List V6) : (storeWP P).length = npW P.length := by simp [storeWP]

theorem storeWF_len (F : List V3) : (storeWF F).length = nfW F.length := by simp [storeWF]

theorem npW_bd (n : Nat) : 2 ≤ npW n ∧ npW n ≤ 5 := by unfold npW; split <;> (try split) <;> omega

theorem nfW_bd (n : Nat) : 1 ≤ nfW n ∧ nfW n ≤ 3 := by unfold nfW; split <;> (try split) <;> omega

theorem storeWP_at {P : List V6} {k : Nat} (h : k < npW P.length) : (storeWP P)[k]? = some (paperW k (wareP P k)) := by
  unfold storeWP
  rw [List.getElem?_map, List.getElem?_range h]
  rfl

theorem storeWF_at {F : List V3} {k : Nat} (h : k < nfW F.length) : (storeWF F)[k]? = some (fluteW (wareF F k)) := by
  unfold storeWF
  rw [List.getElem?_map, List.getElem?_range h]
  rfl

theorem wareP_B {P : List V6} (hP : ∀ v ∈ P, B6 v) {k : Nat} (hk : k < 5) : B6 (wareP P k) := by
  unfold wareP
  cases h : P[k]? with
  | some v => exact hP v (List.mem_of_getElem? h)
  | none => simp only [B6, isB]; omega

theorem wareF_B {F : List V3} (hF : ∀ v ∈ F, B3 v) (k : Nat) : B3 (wareF F k) := by
  unfold wareF
  cases h : F[k]? with
  | some v => exact hF v (List.mem_of_getElem? h)
  | none => simp only [B3, isB]; omega

theorem u8_small {k : Nat} (h : k < 5) : IntKind.u8.wrap (k : Int) = k := by
  have h5 : k = 0 ∨ k = 1 ∨ k = 2 ∨ k = 3 ∨ k = 4 := by omega
  rcases h5 with rfl | rfl | rfl | rfl | rfl <;> rfl

theorem owns_val {w : World} {base : Nat} {e : TypeId} {sz : Nat} {v : Value} {n : Nat} {xs : List Value} (h : w.ownsRow base e sz v n xs) : ∃ a cap, v = .slice a n cap := by
  obtain ⟨h1, h2⟩ := h
  rcases h2 with ⟨hv, hn⟩ | ⟨b, cap, cur, hv, _⟩
  · exact ⟨none, 0, by rw [hv, hn]⟩
  · exact ⟨some ⟨b, 0, none⟩, cap, hv⟩

theorem Own.news {v : World} {b : Nat} {vs : List Value} (h : Own v b vs) : ∀ (j : Nat) (u : Value), vs[j]? = some u → v.cell? ((⟨b, 0, none⟩ : Addr).add j) = some u := by
  intro j u hu
  have hc := h.1.2 j u hu
  unfold Addr.add
  split
  · rename_i h0
    subst h0
    exact hc
  · simpa using hc

end Go.Proofs.Ytjdeojpapdphoaa

namespace Go.Proofs.Ytjdeojpapdphoaa
set_option linter.unusedVariables false
set_option linter.unusedSimpArgs false
open Go.RowKit Go.ChangeShapes

theorem list_of {α : Type} (p : Nat → α → Prop) : ∀ n, (∀ j, j < n → ∃ x, p j x) → ∃ l : List α, l.length = n ∧ ∀ j x, l[j]? = some x → p j x
  | 0, _ => ⟨[], rfl, fun j x h => by simp at h⟩
  | n + 1, h => by
    obtain ⟨l, hl, hp⟩ := list_of p n (fun j hj => h j (by omega))
    obtain ⟨x, hx⟩ := h n (by omega)
    refine ⟨l ++ [x], by simp [hl], fun j y hy => ?_⟩
    by_cases hj : j < l.length
    · rw [List.getElem?_append_left hj] at hy
      exact hp j y hy
    · rw [List.getElem?_append_right (by omega)] at hy
      have h1 := (List.getElem?_eq_some_iff.1 hy).1
      simp at h1
      obtain rfl : j = n := by omega
      simp [hl] at hy
      subst hy
      exact hx

section
variable {H : Type} {enc : TypeId × Value → H} {P : Program} {W : World}

/-- A slice of arrays of integers of one kind. -/
theorem row_flat {α : Type} {en : α → List Value} {G : α → Prop} {e t : TypeId} {k : IntKind} {f sz fuel : Nat} {cs : List Value} {x : DataW H × List MemPlace} (ht : P.underlying t = some (.slice e)) (ha : allK P k f e = true) (hc : P.cellsOf e = sz) (h0 : 0 < sz)
    (hmk : ∀ l : List Int, l.length = sz → (∀ n ∈ l, (Lit.int k n).wf = true) → ∃ y : α, en y = l.map (Value.int k) ∧ G y)
    (hx : DataW.trod enc P W 0 (fun _ => true) true fuel t cs = some x) :
    ∃ (a : Option Addr) (l : List α) (cap : Nat), cs = [.slice a l.length cap] ∧ RowOf sz en W a l ∧ ∀ v ∈ l, G v := by
  rcases DataW.trod_slice ht hx with ⟨h, _⟩ | ⟨a, len, cap, elems, rest, n, _, rfl, _, hb, hl, hm, hlen, hel, _, _⟩
  · exact ⟨none, [], 0, h, RowOf.nil, fun v hv => by cases hv⟩
  have hj : ∀ j, j < len → ∃ y : α, G y ∧ ∃ l : List Int, l.length = sz ∧ en y = l.map (Value.int k) ∧ ∀ i, i < sz → W.cell? ((a.add (j * sz)).add i) = (l.map (Value.int k))[i]? := by
    intro j hj
    have h1 := hel j hj
    rw [List.getElem?_eq_getElem (by omega)] at h1
    obtain ⟨cs', hcs, hy⟩ := Option.bind_eq_some_iff.1 h1
    obtain ⟨hl', hat⟩ := allK_open f e ha _ _ _ hy
    obtain ⟨l, hcl, hw⟩ := ints_of _ hat
    have hll : l.length = sz := by rw [← hc, ← hl', hcl]; simp
    obtain ⟨y, hy1, hy2⟩ := hmk l hll hw
    refine ⟨y, hy2, l, hll, hy1, fun i hi => ?_⟩
    have := (World.cells?_some hcs).2.2 i (by omega)
    rw [hc, hcl] at this
    exact this
  obtain ⟨l, hlen', hp⟩ := list_of _ len hj
  refine ⟨some a, l, cap, by rw [hlen'], ⟨?_, fun j y hy => ?_⟩, fun v hv => ?_⟩
  · rw [hlen']
    have : maxLen ≤ 9223372036854775807 := by decide
    omega
  · obtain ⟨_, li, hli, hen, hcell⟩ := hp j y hy
    have z0 := hcell 0 h0
    have hi0 : (li.map (Value.int k))[0]? = some (.int k (li[0]'(by omega))) := by simp [List.getElem?_eq_getElem (show 0 < li.length by omega)]
    rw [hi0, show (a.add (j * sz)).add 0 = a.add (j * sz) by simp [Addr.add]] at z0
    have hs : a.spot = none := by
      cases hsp : a.spot with
      | none => rfl
      | some q =>
        exfalso
        have hj0 : j < len := by have := (List.getElem?_eq_some_iff.1 hy).1; omega
        obtain ⟨_, _, li0, hli0, _, hc0⟩ := hj 0 (by omega)
        have z1 := hc0 0 h0
        have hi1 : (li0.map (Value.int k))[0]? = some (.int k (li0[0]'(by omega))) := by simp [List.getElem?_eq_getElem (show 0 < li0.length by omega)]
        rw [hi1, show (a.add (0 * sz)).add 0 = a by simp [Addr.add]] at z1
        unfold World.cell? at z1
        split at z1
        · simp [hsp] at z1
        · cases z1
    obtain ⟨b, off, sp⟩ := a
    simp only at hs
    subst hs
    refine ⟨b, off, rfl, ?_, fun i v hv => ?_⟩
    · have := World.block_lt_of_cell? W _ z0
      rw [WideShapes.add_plain] at this
      exact this
    · have hi : i < sz := by
        have := (List.getElem?_eq_some_iff.1 hv).1
        rw [hen] at this
        simpa [hli] using this
      have := hcell i hi
      rw [WideShapes.add_plain, WideShapes.add_plain, ← hen, hv] at this
      exact this
  · obtain ⟨j, hjv⟩ := List.getElem?_of_mem hv
    exact (hp j v hjv).1

/-- A struct of three slices: each by itself. -/
theorem struct3 {t t0 t1 t2 : TypeId} {fs : Array Field} {fuel : Nat} {cs : List Value} {x : DataW H × List MemPlace} (hu : P.underlying t = some (.struct fs)) (ct : P.cellsOf t = 3) (c0 : P.cellsOf t0 = 1) (c1 : P.cellsOf t1 = 1) (c2 : P.cellsOf t2 = 1)
    (m0 : ∃ g ∈ fs.toList, g.type = t0 ∧ g.offset = 0) (m1 : ∃ g ∈ fs.toList, g.type = t1 ∧ g.offset = 1) (m2 : ∃ g ∈ fs.toList, g.type = t2 ∧ g.offset = 2)
    (hx : DataW.trod enc P W 0 (fun _ => true) true fuel t cs = some x) :
    ∃ s0 s1 s2 n x0 x1 x2, cs = [s0, s1, s2] ∧ DataW.trod enc P W 0 (fun _ => true) true n t0 [s0] = some x0 ∧ DataW.trod enc P W 0 (fun _ => true) true n t1 [s1] = some x1 ∧ DataW.trod enc P W 0 (fun _ => true) true n t2 [s2] = some x2 := by
  cases fuel with
  | zero => simp [DataW.trod] at hx
  | succ n =>
    unfold DataW.trod at hx
    rw [hu] at hx
    simp only at hx
    split at hx
    case isFalse => cases hx
    rename_i hl
    obtain ⟨xs, hxs, _⟩ := Option.map_eq_some_iff.1 hx
    rw [ct] at hl
    obtain ⟨s0, s1, s2, rfl⟩ : ∃ s0 s1 s2, cs = [s0, s1, s2] := by
      match cs, hl with
      | [s0, s1, s2], _ => exact ⟨s0, s1, s2, rfl⟩
    obtain ⟨g0, hg0, e0, o0⟩ := m0
    obtain ⟨g1, hg1, e1, o1⟩ := m1
    obtain ⟨g2, hg2, e2, o2⟩ := m2
    obtain ⟨y0, hy0⟩ := mapM_at _ _ hxs g0 hg0
    obtain ⟨y1, hy1⟩ := mapM_at _ _ hxs g1 hg1
    obtain ⟨y2, hy2⟩ := mapM_at _ _ hxs g2 hg2
    rw [e0, o0, c0] at hy0
    rw [e1, o1, c1] at hy1
    rw [e2, o2, c2] at hy2
    exact ⟨s0, s1, s2, n, y0, y1, y2, rfl, hy0, hy1, hy2⟩

end

theorem mk6 (l : List Int) (hl : l.length = 6) (hw : ∀ n ∈ l, (Lit.int .u8 n).wf = true) : ∃ y : V6, encV6 y = l.map (Value.int .u8) ∧ B6 y := by
  match l, hl with
  | [a, b, c, d, e, f], _ => exact ⟨⟨a, b, c, d, e, f⟩, rfl, bounds_u8 (hw a (by simp)), bounds_u8 (hw b (by simp)), bounds_u8 (hw c (by simp)), bounds_u8 (hw d (by simp)), bounds_u8 (hw e (by simp)), bounds_u8 (hw f (by simp))⟩

theorem mk3 (l : List Int) (hl : l.length = 3) (hw : ∀ n ∈ l, (Lit.int .u8 n).wf = true) : ∃ y : V3, encV3 y = l.map (Value.int .u8) ∧ B3 y := by
  match l, hl with
  | [a, b, c], _ => exact ⟨⟨a, b, c⟩, rfl, bounds_u8 (hw a (by simp)), bounds_u8 (hw b (by simp)), bounds_u8 (hw c (by simp))⟩

theorem mk1 (l : List Int) (hl : l.length = 1) (hw : ∀ n ∈ l, (Lit.int .u8 n).wf = true) : ∃ y : Int, encU y = l.map (Value.int .u8) ∧ (0 ≤ y ∧ y ≤ 255) := by
  match l, hl with
  | [a], _ => exact ⟨a, rfl, bounds_u8 (hw a (by simp))⟩

end Go.Proofs.Ytjdeojpapdphoaa

namespace Go.Proofs.Ytjdeojpapdphoaa
set_option linter.unusedVariables false
set_option linter.unusedSimpArgs false
open Go.RowKit Go.ChangeShapes

/-- The pieces of a struct. -/
theorem struct_piece {H : Type} {enc : TypeId × Value → H} {P : Program} {W : World} {t : TypeId} {fs : Array Field} {fuel : Nat} {cs : List Value} {x : DataW H × List MemPlace} (hu : P.underlying t = some (.struct fs))
    (hx : DataW.trod enc P W 0 (fun _ => true) true fuel t cs = some x) :
    cs.length = P.cellsOf t ∧ ∃ n, ∀ g ∈ fs.toList, ∃ y, DataW.trod enc P W 0 (fun _ => true) true n g.type ((cs.drop g.offset).take (P.cellsOf g.type)) = some y := by
  cases fuel with
  | zero => simp [DataW.trod] at hx
  | succ n =>
    unfold DataW.trod at hx
    rw [hu] at hx
    simp only at hx
    split at hx
    case isFalse => cases hx
    rename_i hl
    obtain ⟨xs, hxs, _⟩ := Option.map_eq_some_iff.1 hx
    exact ⟨hl, n, fun g hg => mapM_at _ _ hxs g hg⟩

theorem mk2 (l : List Int) (hl : l.length = 2) (hw : ∀ n ∈ l, (Lit.int .u8 n).wf = true) : ∃ y : V2, encV2 y = l.map (Value.int .u8) ∧ B2 y := by
  match l, hl with
  | [a, b], _ => exact ⟨⟨a, b⟩, rfl, bounds_u8 (hw a (by simp)), bounds_u8 (hw b (by simp))⟩

set_option maxRecDepth 100000 in
theorem lot_open {H : Type} {enc : TypeId × Value → H} {W : World} {fuel : Nat} {cs : List Value} {x : DataW H × List MemPlace} (hx : DataW.trod enc Try.prog W 0 (fun _ => true) true fuel 83 cs = some x) :
    ∃ (r0 r1 r2 r3 of : Int) (T : List V2) (ta : Option Addr) (tc : Nat), cs = [.int .u8 r0, .int .u8 r1, .int .u8 r2, .int .u8 r3, .int .u8 of, .slice ta T.length tc] ∧ (0 ≤ r0 ∧ r0 ≤ 255) ∧ (0 ≤ r1 ∧ r1 ≤ 255) ∧ (0 ≤ r2 ∧ r2 ≤ 255) ∧ (0 ≤ r3 ∧ r3 ≤ 255) ∧ (0 ≤ of ∧ of ≤ 255) ∧ Row2 W ta T ∧ ∀ v ∈ T, B2 v := by
  obtain ⟨hl, n, hp⟩ := struct_piece Try.underlying83 hx
  rw [show Try.prog.cellsOf 83 = 6 from by kernel_rfl] at hl
  obtain ⟨c0, c1, c2, c3, c4, c5, rfl⟩ : ∃ c0 c1 c2 c3 c4 c5, cs = [c0, c1, c2, c3, c4, c5] := by
    match cs, hl with
    | [c0, c1, c2, c3, c4, c5], _ => exact ⟨c0, c1, c2, c3, c4, c5, rfl⟩
  obtain ⟨y0, h0⟩ := hp _ List.mem_cons_self
  obtain ⟨y1, h1⟩ := hp _ (List.mem_cons_of_mem _ List.mem_cons_self)
  obtain ⟨y2, h2⟩ := hp _ (List.mem_cons_of_mem _ (List.mem_cons_of_mem _ List.mem_cons_self))
  have h0' : DataW.trod enc Try.prog W 0 (fun _ => true) true n 80 [c0, c1, c2, c3] = some y0 := by
    have e : Try.prog.cellsOf 80 = 4 := by kernel_rfl
    simpa only [List.drop_zero, e, List.take_succ_cons, List.take_zero] using h0
  have h1' : DataW.trod enc Try.prog W 0 (fun _ => true) true n 5 [c4] = some y1 := by
    have e : Try.prog.cellsOf 5 = 1 := by kernel_rfl
    simpa only [List.drop_succ_cons, List.drop_zero, e, List.take_succ_cons, List.take_zero] using h1
  have h2' : DataW.trod enc Try.prog W 0 (fun _ => true) true n 81 [c5] = some y2 := by
    have e : Try.prog.cellsOf 81 = 1 := by kernel_rfl
    simpa only [List.drop_succ_cons, List.drop_zero, e, List.take_succ_cons, List.take_zero] using h2
  obtain ⟨_, hat⟩ := allK_open (k := .u8) 5 80 (by kernel_rfl) _ _ _ h0'
  obtain ⟨l, hcs, hw⟩ := ints_of _ hat
  obtain ⟨of, e4, hof⟩ := int_open Try.underlying5 h1'
  obtain ⟨ta, T, tc, e5, rT, hT⟩ := row_flat (f := 5) (en := encV2) (G := B2) Try.underlying81 (k := .u8) (by kernel_rfl) (by kernel_rfl) (by decide) mk2 h2'
  obtain ⟨r0, r1, r2, r3, rfl⟩ : ∃ r0 r1 r2 r3, l = [r0, r1, r2, r3] := by
    have hl4 : l.length = 4 := by
      have := congrArg List.length hcs
      simpa using this.symm
    match l, hl4 with
    | [r0, r1, r2, r3], _ => exact ⟨r0, r1, r2, r3, rfl⟩
  simp only [List.map_cons, List.map_nil, List.cons.injEq, and_true] at hcs e4 e5
  obtain ⟨rfl, rfl, rfl, rfl⟩ := hcs
  subst e4
  subst e5
  exact ⟨r0, r1, r2, r3, of, T, ta, tc, rfl, bounds_u8 (hw r0 (by simp)), bounds_u8 (hw r1 (by simp)), bounds_u8 (hw r2 (by simp)), bounds_u8 (hw r3 (by simp)), bounds_u8 hof, rT, hT⟩

end Go.Proofs.Ytjdeojpapdphoaa

namespace Go.Proofs.Ytjdeojpapdphoaa
set_option linter.unusedVariables false
set_option linter.unusedSimpArgs false
open Go.RowKit Go.ChangeShapes

/-- A struct, or an array, of ints in so many cells. -/
theorem ints_flat {H : Type} {enc : TypeId × Value → H} {W : World} {t : TypeId} {f fuel : Nat} {cs : List Value} {x : DataW H × List MemPlace} (ha : allK Try.prog .i64 f t = true) (hx : DataW.trod enc Try.prog W 0 (fun _ => true) true fuel t cs = some x) :
    ∃ l : List Int, cs = l.map (Value.int .i64) := by
  obtain ⟨_, hat⟩ := allK_open (k := .i64) f t ha _ _ _ hx
  obtain ⟨l, hcs, hw⟩ := ints_of _ hat
  exact ⟨l, hcs⟩

theorem trod_len {H : Type} {enc : TypeId × Value → H} {P : Program} {W : World} {t : TypeId} {fs : Array Field} {fuel : Nat} {cs : List Value} {x : DataW H × List MemPlace} (hu : P.underlying t = some (.struct fs))
    (hx : DataW.trod enc P W 0 (fun _ => true) true fuel t cs = some x) : cs.length = P.cellsOf t := (struct_piece hu hx).1

set_option maxRecDepth 100000 in
theorem load_open {H : Type} {enc : TypeId × Value → H} {W : World} {fuel : Nat} {cs : List Value} {x : DataW H × List MemPlace} (hx : DataW.trod enc Try.prog W 0 (fun _ => true) true fuel 70 cs = some x) :
    ∃ y : Ld, cs = [.int .i64 y.sl, .int .i64 y.sh, .int .i64 y.wl, .int .i64 y.wh] := by
  have hl := trod_len Try.underlying70 hx
  rw [show Try.prog.cellsOf 70 = 4 from by kernel_rfl] at hl
  obtain ⟨l, rfl⟩ := ints_flat (f := 5) (by kernel_rfl) hx
  rw [List.length_map] at hl
  match l, hl with
  | [a, b, c, d], _ => exact ⟨⟨a, b, c, d⟩, rfl⟩

theorem mkLd (l : List Int) (hl : l.length = 4) (hw : ∀ n ∈ l, (Lit.int .i64 n).wf = true) : ∃ y : Ld, encL y = l.map (Value.int .i64) ∧ True := by
  match l, hl with
  | [a, b, c, d], _ => exact ⟨⟨a, b, c, d⟩, rfl, trivial⟩

theorem mkSt (l : List Int) (hl : l.length = 2) (hw : ∀ n ∈ l, (Lit.int .i64 n).wf = true) : ∃ y : Stp, encT y = l.map (Value.int .i64) ∧ True := by
  match l, hl with
  | [a, b], _ => exact ⟨⟨a, b⟩, rfl, trivial⟩

set_option maxRecDepth 100000 in
theorem stack_open {H : Type} {enc : TypeId × Value → H} {W : World} {v : Value} {d : DataW H} {ps : List MemPlace} {r : Reach} {b0 : Nat} (hval : Value.okWide Try.prog W r b0 53 v) (h : DataW.Trod enc Try.prog W 0 (fun _ => true) true 53 v d ps) :
    ∃ (a : Option Addr) (l : List Ld) (cap : Nat), v = .slice a l.length cap ∧ LRow W a l := by
  obtain ⟨a0, len0, cap0, rfl⟩ := Go.WideShapes.okWide_slice Try.underlying53 hval
  obtain ⟨fuel, hf⟩ := h
  obtain ⟨a, l, cap, e, rl, _⟩ := row_flat (f := 5) (en := encL) (G := fun _ => True) Try.underlying53 (k := .i64) (by kernel_rfl) (by kernel_rfl) (by decide) mkLd hf
  have e' : [Value.slice a0 len0 cap0] = [.slice a l.length cap] := e
  injection e' with e' _
  exact ⟨a, l, cap, e', rl⟩

set_option maxRecDepth 100000 in
theorem table_open {H : Type} {enc : TypeId × Value → H} {W : World} {v : Value} {d : DataW H} {ps : List MemPlace} {r : Reach} {b0 : Nat} (hval : Value.okWide Try.prog W r b0 54 v) (h : DataW.Trod enc Try.prog W 0 (fun _ => true) true 54 v d ps) :
    ∃ (a : Option Addr) (l : List Stp) (cap : Nat), v = .slice a l.length cap ∧ TRow W a l := by
  obtain ⟨a0, len0, cap0, rfl⟩ := Go.WideShapes.okWide_slice Try.underlying54 hval
  obtain ⟨fuel, hf⟩ := h
  obtain ⟨a, l, cap, e, rl, _⟩ := row_flat (f := 5) (en := encT) (G := fun _ => True) Try.underlying54 (k := .i64) (by kernel_rfl) (by kernel_rfl) (by decide) mkSt hf
  have e' : [Value.slice a0 len0 cap0] = [.slice a l.length cap] := e
  injection e' with e' _
  exact ⟨a, l, cap, e', rl⟩

end Go.Proofs.Ytjdeojpapdphoaa
