/- crush's members: the iterator's contract. -/
import Derived.Test.YtkfhmfidgdpeiaaQi
import Derived.Laws.Shifts
import Derived.Laws.BitsLemmas
namespace Go.Proofs.Ytkfhmfidgdpeiaa
set_option linter.unusedVariables false
set_option linter.unusedSimpArgs false
open Go.RowKit Go.Shelf
attribute [local go_sem] Oper.semAt_some

def membTo (s k : Nat) : List Nat := (List.range k).filter (fun i => s.testBit i)

/-- The numbers of a set. -/
def membL (s : Nat) : List Nat := membTo s 10

def encM (x : Nat) : Array Value := #[.int .i64 (x : Int)]

theorem membTo_succ (s k : Nat) : membTo s (k + 1) = if s.testBit k = true then membTo s k ++ [k] else membTo s k := by
  unfold membTo
  rw [List.range_succ, List.filter_append]
  cases h : s.testBit k <;> simp [h]

theorem membTo_len (s k : Nat) : (membTo s k).length ≤ k := by
  have := List.length_filter_le (fun i => s.testBit i) (List.range k)
  simpa [membTo] using this

theorem bit_zero {s k i : Nat} (h : s / 2 ^ k = 0) (hi : k ≤ i) : s.testBit i = false := by
  have h1 : s < 2 ^ k := by
    rcases Nat.lt_or_ge s (2 ^ k) with h2 | h2
    · exact h2
    · have := Nat.div_pos h2 (Nat.two_pow_pos k)
      omega
  exact Nat.testBit_lt_two_pow (Nat.lt_of_lt_of_le h1 (Nat.pow_le_pow_right (by decide) hi))

theorem membTo_end {s k : Nat} (h : s / 2 ^ k = 0) : ∀ n, membTo s (k + n) = membTo s k
  | 0 => rfl
  | n + 1 => by
    rw [show k + (n + 1) = (k + n) + 1 by omega, membTo_succ, bit_zero h (by omega)]
    simpa using membTo_end h n

theorem membL_end {s k : Nat} (h : s / 2 ^ k = 0) (hk : k ≤ 10) : membTo s k = membL s := by
  have := membTo_end h (10 - k)
  rw [show k + (10 - k) = 10 by omega] at this
  exact this.symm

theorem bit_and {s k Q : Nat} (hs : s < 1024) (hQ : s / 2 ^ k = Q) : bits .and .i64 (Q : Int) 1 = if s.testBit k = true then 1 else 0 := by
  have h1 : Q ≤ s := by rw [← hQ]; exact Nat.div_le_self _ _
  have h := bits_mask .i64 62 (by decide) (fun n h0 h1 => IntWalk.i64_in n (by omega)) 1 (by decide) (Q : Int) (by omega) (by omega)
  rw [show (2 : Int) ^ 1 - 1 = 1 by decide, show (2 : Int) ^ 1 = 2 by decide] at h
  rw [h, Nat.testBit_eq_decide_div_mod_eq, hQ]
  have h2 : Q % 2 = 0 ∨ Q % 2 = 1 := by omega
  rcases h2 with h2 | h2
  · rw [if_neg (by simp [h2])]; omega
  · rw [if_pos (by simp [h2])]; omega

theorem shr_nat (s k : Nat) : (s : Int) / 2 ^ k = ((s / 2 ^ k : Nat) : Int) := by
  rw [Int.natCast_ediv]
  simp

set_option maxRecDepth 100000 in
set_option maxHeartbeats 2000000 in
theorem members_seq (n : Nat) (hn : 1 ≤ n) (b : Nat) (s : Nat) (hs : s < 1024)
    (Z0 : Nat → Prop) (w0 : World) (hst : St Z0 (fun V => Own V b [.int .i64 (s : Int)]) w0) :
    SeqX Fence.wide n Try.prog 116 #[.pointer (some ⟨b, 0, none⟩)] encM (fun pre _ x _ => x < 10 ∧ s.testBit x = true ∧ pre.length ≤ x) (fun xs => xs = membL s) (fun pre => ∃ k, k ≤ 10 ∧ pre = membTo s k) Z0 w0 := by
  intro i0 J Jx X0 W hk0 hX0 hJ hJx hY h0
  refine callsIn_of_wp Try.func116 rfl trivial ?_ rfl
  simp only [Try.ntmps116, List.size_toArray, List.length_cons, List.length_nil, Nat.reduceAdd, Nat.reduceSub, Array.replicate_succ, Array.replicate_zero, List.push_toArray, List.append_toArray, List.nil_append, List.cons_append]
  have HY := Lib.hid hY
  have HJ := Lib.hid hJ
  have HS := Lib.hid hst
  have H0 := Lib.hid h0
  have HK := Lib.hid hk0
  have HX0 := Lib.hid hX0
  clear hY hJ hX0 hst hJx h0 hk0
  gi_wp2
  gi_loopw [3] (fun i wr => ∃ k : Nat, k ≤ 10 ∧ i = .int .i64 k ∧ ∃ X, J (membTo s k) X noBlock wr ∧ (∀ i, X i → i < wr.heap.size ∧ (Z0 i ∨ w0.heap.size ≤ i)) ∧ Kx Z0 w0 wr) (fun i _ => 10 - (intOf i).toNat)
  case atStart => exact ⟨0, Nat.zero_le _, rfl, X0, H0.out, HX0.out, HK.out⟩
  case round =>
    obtain ⟨k, hk, rfl, X, hj, hX, hkV⟩ := hrel
    have d1 := HS.out wr hkV
    have q := d1.1.c1
    have e0 := shr_nat s k
    obtain ⟨Q, hQ⟩ : ∃ Q, s / 2 ^ k = Q := ⟨_, rfl⟩
    have hb := bit_and hs hQ
    rw [hQ] at e0
    have HX := Lib.hid hX
    have HKV := Lib.hid hkV
    have D1 := Lib.hid d1
    clear hX hkV d1
    by_cases h0 : Q = 0
    · subst h0
      have HE := Lib.hid (membL_end hQ hk)
      clear hb hQ
      gi_wp2
      go_end0
      exact ⟨⟨_, rfl⟩, .inl ⟨X, _, by rw [← HE.out]; exact hj⟩⟩
    · have hk9 : k < 10 := by
        rcases Nat.lt_or_ge k 10 with h | h
        · exact h
        · exfalso
          obtain rfl : k = 10 := by omega
          apply h0
          rw [← hQ]
          exact Nat.div_eq_of_lt (by omega)
      have hM := membTo_succ s k
      have HQ' := Lib.hid hQ
      cases ht : s.testBit k with
      | false =>
        rw [ht] at hb hM
        rw [if_neg (by decide)] at hb hM
        have HM := Lib.hid hM
        clear hM ht hQ
        gi_wp2
        refine ⟨fun f e => (by cases e), ?_⟩
        gi_wp2
        go_roundw
        case rel => exact ⟨k + 1, by omega, by go_num, X, by rw [HM.out]; exact hj, HX.out, HKV.out⟩
        case measure => simp [intOf]; omega
      | true =>
        rw [ht] at hb hM
        rw [if_pos rfl] at hb hM
        have HM := Lib.hid hM
        obtain ⟨fn, tmps, assign, body, hy, hRR⟩ := HY.out (membTo s k) k X noBlock wr hj ⟨hk9, ht, membTo_len s k⟩ ⟨fun i e => (HX.out i e).1, fun i e => e.elim, fun i e e' => e'⟩
        dsimp only [encM] at hy
        clear hM ht hQ hj
        gi_wp2
        refine hRR.mono ?_
        clear hRR hy
        rintro e W3 ⟨hk3, (⟨rfl, X', hJ3, hX3⟩ | ⟨rfl, hJx3⟩)⟩
        · have HJ3 := Lib.hid hJ3
          have HX3 := Lib.hid hX3
          have Hk3 := Lib.hid hk3
          clear hJ3 hX3 hk3
          gi_wp2
          go_roundw
          case rel =>
            have hw := HKV.out.size
            refine ⟨k + 1, by omega, by go_num, X', by rw [HM.out]; exact HJ3.out, fun i e => ⟨(HX3.out i e).1, ?_⟩, HKV.out.th Hk3.out fun i e => (HX.out i e).2⟩
            rcases (HX3.out i e).2 with h | h
            · exact (HX.out i h).2
            · exact .inr (by omega)
          case measure => simp [intOf]; omega
        · gi_wp2
          refine bodyPost_ret (results_none rfl _ _ _) rfl ?_
          exact ⟨⟨_, rfl⟩, .inr ⟨_, _, ⟨k + 1, by omega, HM.out.symm⟩, hJx3⟩⟩

end Go.Proofs.Ytkfhmfidgdpeiaa
