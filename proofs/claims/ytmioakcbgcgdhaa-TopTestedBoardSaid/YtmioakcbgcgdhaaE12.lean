/- TopTestedBoard's readings. -/
import Derived.Test.YtmioakcbgcgdhaaQl
import Derived.Test.YtmioakcbgcgdhaaQe
import Derived.Test.YtmioakcbgcgdhaaP1
namespace Go.Proofs.Ytmioakcbgcgdhaa
set_option linter.unusedVariables false
set_option linter.unusedSimpArgs false
open Go.RowKit

def readW (e o : Int) (Y : List Int) (i : Nat) : Int := max 0 (e - o + byteL Y i % (2 * o + 1))

def readsW (e o : Int) (Y : List Int) (k : Nat) : List Int := (List.range k).map (readW e o Y)

theorem readsW_len (e o : Int) (Y : List Int) (k : Nat) : (readsW e o Y k).length = k := by simp [readsW]

theorem readsW_succ (e o : Int) (Y : List Int) (k : Nat) : readsW e o Y (k + 1) = readsW e o Y k ++ [readW e o Y k] := by simp [readsW, List.range_succ]

theorem readW_bd {e o : Int} (Y : List Int) (i : Nat) (e0 : 0 ≤ e) (o0 : 0 ≤ o) : 0 ≤ readW e o Y i ∧ e - o ≤ readW e o Y i ∧ readW e o Y i ≤ e + o := by
  have h1 := Int.emod_nonneg (byteL Y i) (show 2 * o + 1 ≠ 0 by omega)
  have h2 := Int.emod_lt_of_pos (byteL Y i) (show 0 < 2 * o + 1 by omega)
  unfold readW
  omega

theorem truthAt_reads {e o : Int} (Y : List Int) {n k : Nat} (h : k < n) : truthAt o (readsW e o Y n) k = (max 0 (readW e o Y k - o), min 100000 (readW e o Y k + o)) := by
  unfold truthAt
  have : (readsW e o Y n)[k]? = some (readW e o Y k) := by simp [readsW, h]
  rw [this]

theorem reads_in {e o : Int} (Y : List Int) (n : Nat) (e0 : 0 ≤ e) (e1 : e ≤ 25500) (o0 : 0 ≤ o) (o1 : o ≤ 29) : inB 0 100000 (readsW e o Y n) = true := by
  unfold inB
  rw [List.all_eq_true]
  intro x hx
  obtain ⟨k, _, rfl⟩ := List.mem_map.1 hx
  obtain ⟨h1, h2, h3⟩ := readW_bd Y k e0 o0
  simp only [in1, Bool.and_eq_true, decide_eq_true_eq]
  omega

theorem rule_good {o m : Int} (l : List Int) (n : Nat) (n1 : 1 ≤ n) (n2 : n ≤ 12) (m0 : 0 ≤ m) (m1 : m ≤ 100000) (o0 : 0 ≤ o) (o1 : o ≤ 29) (hl : l.length ≤ n) (hi : inB 0 100000 l = true) : ruleL (n : Int) m 0 (n : Int) o l = 0 := by
  unfold ruleL
  have a1 : ruleOk (n : Int) m 0 (n : Int) = true := by
    simp only [ruleOk, inB, in1, List.all_cons, List.all_nil, Bool.and_true, Bool.and_eq_true, decide_eq_true_eq]
    omega
  have a2 : inB 0 1000 [o] = true := by
    simp only [inB, in1, List.all_cons, List.all_nil, Bool.and_true, Bool.and_eq_true, decide_eq_true_eq]
    omega
  rw [if_neg (by rw [a1]; decide), if_neg (by rw [a2]; decide), if_neg (by omega), if_neg (by rw [hi]; decide)]

theorem reads_pass {e o : Int} (Y : List Int) (n : Nat) (e0 : 0 ≤ e) (e1 : e ≤ 25500) (o0 : 0 ≤ o) (o1 : o ≤ 29) : stateL (n : Int) (max 0 (e - 2 * o)) 0 (n : Int) (truthsL n o (readsW e o Y n)) = 1 := by
  refine state_pass n _ o _ fun k hk => ?_
  rw [truthAt_reads Y hk]
  obtain ⟨h1, h2, h3⟩ := readW_bd Y k e0 o0
  show max 0 (e - 2 * o) ≤ max 0 (readW e o Y k - o)
  omega

theorem reads_fail {e o : Int} (Y : List Int) (n : Nat) (n1 : 1 ≤ n) (e0 : 0 ≤ e) (e1 : e ≤ 25500) (o0 : 0 ≤ o) (o1 : o ≤ 29) : stateL (n : Int) (e + 2 * o + 1) 0 (n : Int) (truthsL n o (readsW e o Y n)) = 2 := by
  refine state_fail n n1 _ o _ fun k hk => ?_
  rw [truthAt_reads Y hk]
  obtain ⟨h1, h2, h3⟩ := readW_bd Y k e0 o0
  show min 100000 (readW e o Y k + o) ≤ e + 2 * o + 1 - 1 ∧ max 0 (readW e o Y k - o) ≤ e + 2 * o + 1 - 1
  omega

theorem reads_need {e o : Int} (n : Nat) (e0 : 0 ≤ e) (e1 : e ≤ 25500) (o0 : 0 ≤ o) (o1 : o ≤ 29) : 0 ≤ needL n (max 0 (e - 2 * o)) 0 (n : Int) o [] 1 100000 ∧ needL n (max 0 (e - 2 * o)) 0 (n : Int) o [] 1 100000 ≤ (n : Int) := by
  refine need_in n _ _ _ _ _ _ ?_
  unfold stAt
  refine state_pass n _ o _ fun k hk => ?_
  have : ([] ++ List.replicate n (100000 : Int))[k]? = some 100000 := by simp [hk]
  unfold truthAt
  rw [this]
  show max 0 (e - 2 * o) ≤ max 0 (100000 - o)
  omega

theorem reads_never {e o : Int} (Y : List Int) (n : Nat) (n1 : 1 ≤ n) (e0 : 0 ≤ e) (e1 : e ≤ 25500) (o0 : 0 ≤ o) (o1 : o ≤ 29) : needL n (e + 2 * o + 1) 0 (n : Int) o (readsW e o Y n) 2 0 = 0 :=
  need_zero n _ _ _ _ _ (by rw [readsW_len]; exact Nat.le_refl _) _ _ (reads_fail Y n n1 e0 e1 o0 o1)

theorem max_le {e o : Int} (e0 : 0 ≤ e) (e1 : e ≤ 25500) (o0 : 0 ≤ o) (o1 : o ≤ 29) : 0 ≤ max 0 (e - 2 * o) ∧ max 0 (e - 2 * o) ≤ 100000 := by omega

theorem decide_pass {e o : Int} (Y L : List Int) (n : Nat) (hL : L = readsW e o Y n) (n1 : 1 ≤ n) (n2 : n ≤ 12) (e0 : 0 ≤ e) (e1 : e ≤ 25500) (o0 : 0 ≤ o) (o1 : o ≤ 29) (a : Option Addr) (cap : Nat) (w : World) (hr : IRow w a L) (hn : a = none → cap = 0) :
    Calls Try.prog 25 #[.agg #[.int .i64 (n : Int), .int .i64 (max 0 (e - 2 * o)), .int .i64 0, .int .i64 (n : Int)], .slice a L.length cap, .int .i64 o] w fun x w' => x = .returned (.tuple #[.int .i64 1, .int .i64 0]) ∧ Gr w w' := by
  obtain ⟨m0, m1⟩ := max_le e0 e1 o0 o1
  have h := decide_ok (n : Int) (max 0 (e - 2 * o)) 0 (n : Int) o L (rule_good L n n1 n2 m0 m1 o0 o1 (by rw [hL, readsW_len]; exact Nat.le_refl _) (by rw [hL]; exact reads_in Y n e0 e1 o0 o1)) a cap w hr hn
  rw [Int.toNat_natCast, hL, reads_pass Y n e0 e1 o0 o1, ← hL] at h
  exact h

theorem decide_fail {e o : Int} (Y L : List Int) (n : Nat) (hL : L = readsW e o Y n) (n1 : 1 ≤ n) (n2 : n ≤ 12) (e0 : 0 ≤ e) (e1 : e ≤ 25500) (o0 : 0 ≤ o) (o1 : o ≤ 29) (a : Option Addr) (cap : Nat) (w : World) (hr : IRow w a L) (hn : a = none → cap = 0) :
    Calls Try.prog 25 #[.agg #[.int .i64 (n : Int), .int .i64 (e + 2 * o + 1), .int .i64 0, .int .i64 (n : Int)], .slice a L.length cap, .int .i64 o] w fun x w' => x = .returned (.tuple #[.int .i64 2, .int .i64 0]) ∧ Gr w w' := by
  have h := decide_ok (n : Int) (e + 2 * o + 1) 0 (n : Int) o L (rule_good L n n1 n2 (by omega) (by omega) o0 o1 (by rw [hL, readsW_len]; exact Nat.le_refl _) (by rw [hL]; exact reads_in Y n e0 e1 o0 o1)) a cap w hr hn
  rw [Int.toNat_natCast, hL, reads_fail Y n n1 e0 e1 o0 o1, ← hL] at h
  exact h

theorem need_pass {e o : Int} (n : Nat) (n1 : 1 ≤ n) (n2 : n ≤ 12) (e0 : 0 ≤ e) (e1 : e ≤ 25500) (o0 : 0 ≤ o) (o1 : o ≤ 29) (w : World) :
    Calls Try.prog 27 #[.agg #[.int .i64 (n : Int), .int .i64 (max 0 (e - 2 * o)), .int .i64 0, .int .i64 (n : Int)], .slice none 0 0, .int .i64 o] w fun x w' => (∃ p q : Int, x = .returned (.tuple #[.int .i64 p, .int .i64 q, .int .i64 0]) ∧ 0 ≤ p ∧ p ≤ n) ∧ Gr w w' := by
  obtain ⟨m0, m1⟩ := max_le e0 e1 o0 o1
  obtain ⟨h1, h2⟩ := reads_need (e := e) (o := o) n e0 e1 o0 o1
  refine (needF_ok (n : Int) (max 0 (e - 2 * o)) 0 (n : Int) o [] (rule_good [] n n1 n2 m0 m1 o0 o1 (Nat.zero_le _) rfl) none 0 w RowOf.nil (fun _ => rfl)).mono ?_
  rintro x w' ⟨rfl, g⟩
  rw [Int.toNat_natCast]
  exact ⟨⟨_, _, rfl, h1, h2⟩, g⟩

theorem need_never {e o N1 : Int} (Y L : List Int) (n : Nat) (hL : L = readsW e o Y n) (hN : N1 = needL n (e + 2 * o + 1) 0 (n : Int) o L 1 100000) (n1 : 1 ≤ n) (n2 : n ≤ 12) (e0 : 0 ≤ e) (e1 : e ≤ 25500) (o0 : 0 ≤ o) (o1 : o ≤ 29) (a : Option Addr) (cap : Nat) (w : World) (hr : IRow w a L) (hn : a = none → cap = 0) :
    Calls Try.prog 27 #[.agg #[.int .i64 (n : Int), .int .i64 (e + 2 * o + 1), .int .i64 0, .int .i64 (n : Int)], .slice a L.length cap, .int .i64 o] w fun x w' => x = .returned (.tuple #[.int .i64 N1, .int .i64 0, .int .i64 0]) ∧ Gr w w' := by
  refine (needF_ok (n : Int) (e + 2 * o + 1) 0 (n : Int) o L (rule_good L n n1 n2 (by omega) (by omega) o0 o1 (by rw [hL, readsW_len]; exact Nat.le_refl _) (by rw [hL]; exact reads_in Y n e0 e1 o0 o1)) a cap w hr hn).mono ?_
  rintro x w' ⟨rfl, g⟩
  rw [Int.toNat_natCast, ← hN]
  have h := reads_never Y n n1 e0 e1 o0 o1
  rw [← hL] at h
  rw [h]
  exact ⟨rfl, g⟩

end Go.Proofs.Ytmioakcbgcgdhaa
