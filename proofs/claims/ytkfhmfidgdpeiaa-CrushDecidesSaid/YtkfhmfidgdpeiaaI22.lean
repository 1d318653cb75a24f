/- A map from int to bool that a call makes; a set without one of its numbers. -/
import Derived.Test.YtkfhmfidgdpeiaaI21
import Derived.Test.YtkfhmfidgdpeiaaQm
namespace Go.Proofs.Ytkfhmfidgdpeiaa
set_option linter.unusedVariables false
set_option linter.unusedSimpArgs false
open Go.RowKit

theorem zeroB (w : World) : (zeroValue 4).run Try.prog w = .ok (.bool false) w := by kernel_rfl

theorem plainElem_bool_inv {P : Program} {e : TypeId} (he : P.underlying e = some .bool) {v : Value} {z : DataW Unit × List MemPlace} (h : plainElem P e v = some z) : ∃ x, v = .bool x ∧ z = (.lit (.bool x), []) := by
  unfold plainElem at h
  rw [he] at h
  cases v <;> simp at h
  exact ⟨_, rfl, h.symm⟩

/-- Block b is a map of at most n entries in which each number x leads to f x (false where x is not in it). -/
def MapB (w : World) (b n : Nat) (f : Int → Bool) : Prop :=
  ∃ D : DataW Unit, Maps.IsMap D ∧ w.ownsMap Try.prog 3 (plainElem Try.prog 4) b n D ∧ ∀ x : Int, D.atKey (.int .i64 x) (.lit (.bool false)) = .lit (.bool (f x))

theorem MapB.lt {w : World} {b n : Nat} {f : Int → Bool} (h : MapB w b n f) : b < w.heap.size := by
  obtain ⟨D, _, h, _⟩ := h
  exact h.lt

theorem MapB.keep {w w' : World} {b n : Nat} {f : Int → Bool} (h : MapB w b n f) (g : Gr w w') : MapB w' b n f := by
  have hlt := h.lt
  obtain ⟨D, hD, ⟨es, clock, hb, F, hs, hd⟩, ha⟩ := h
  exact ⟨D, hD, ⟨es, clock, (g.block b hlt).trans hb, F, hs, hd⟩, ha⟩

theorem MapB.kx {Z : Nat → Prop} {w w' : World} {b n : Nat} {f : Int → Bool} (h : MapB w b n f) (k : Kx Z w w') (hz : ¬ Z b) : MapB w' b n f := by
  obtain ⟨D, hD, ⟨es, clock, hb, F, hs, hd⟩, ha⟩ := h
  exact ⟨D, hD, ⟨es, clock, k.keepO hb hz, F, hs, hd⟩, ha⟩

theorem MapB.made (w : World) : MapB (w.alloc (.map #[] 0)) w.heap.size 0 (fun _ => false) :=
  ⟨.map [], ⟨[], rfl⟩, World.ownsMap_made _ _ _ _, fun _ => rfl⟩

theorem MapB.look {w : World} {b n : Nat} {f : Int → Bool} (h : MapB w b n f) (x : Int) (hx : (Lit.int .i64 x).wf = true) :
    (Instr.lookup 95 (.map (some b)) (.int .i64 x) false).run Try.prog w = .ok (.bool (f x)) w := by
  obtain ⟨D, _, ho, ha⟩ := h
  obtain ⟨v, ps, hrun, hv⟩ := ho.lookup key3 Try.underlying95 (zeroB w) (plainElem_bool Try.underlying4 false) (Maps.keyOf_int_mk Try.underlying3 hx)
  obtain ⟨c, rfl, hc⟩ := plainElem_bool_inv Try.underlying4 hv
  simp only [Prod.mk.injEq] at hc
  have hat := hc.1
  rw [ha x] at hat
  have e : f x = c := by
    simp only [DataW.lit.injEq, Lit.bool.injEq] at hat
    exact hat
  rw [hrun, e]

theorem MapB.put {w : World} {b n : Nat} {f : Int → Bool} (h : MapB w b n f) (hn : n < 10000) (x : Int) (v : Bool) (hx : (Lit.int .i64 x).wf = true) :
    ∃ w', (Instr.mapUpdate 95 (.map (some b)) (.int .i64 x) (.bool v)).run Try.prog w = .ok () w' ∧ MapB w' b (n + 1) (fun y => if y = x then v else f y) ∧ w.grownBy w' (some b) := by
  obtain ⟨D, hD, ho, ha⟩ := h
  obtain ⟨w', hrun, ho', hg⟩ := ho.update (val := .bool v) (d := .lit (.bool v)) (ps := []) key3 Try.underlying95 (by unfold maxLen; omega) (Maps.keyOf_int_mk Try.underlying3 hx) (plainElem_bool Try.underlying4 v)
  refine ⟨w', hrun, ⟨_, hD.put _ _, ho', fun y => ?_⟩, hg⟩
  by_cases h : y = x
  · subst h
    rw [Maps.atKey_put_same hD (by trivial)]
    show _ = DataW.lit (.bool (if y = y then v else f y))
    rw [if_pos rfl]
  · rw [Maps.atKey_put_other (by intro e; injection e with _ e; exact h e), ha y]
    show _ = DataW.lit (.bool (if y = x then v else f y))
    rw [if_neg h]

theorem MapB.other {w : World} {b n c i : Nat} {f : Int → Bool} {v : Value} (h : MapB w b n f) (hne : b ≠ c) : MapB (w.setCell ⟨c, i, none⟩ v) b n f := by
  obtain ⟨D, hD, ⟨es, clock, hb, F, hs, hd⟩, ha⟩ := h
  exact ⟨D, hD, ⟨es, clock, (Below.heap_setCell _ _ _ _ hne).trans hb, F, hs, hd⟩, ha⟩

theorem MapB.congr {w : World} {b n n' : Nat} {f g : Int → Bool} (h : MapB w b n f) (hn : n ≤ n') (e : ∀ y, f y = g y) : MapB w b n' g := by
  have : f = g := funext e
  subst this
  obtain ⟨D, hD, ho, ha⟩ := h
  exact ⟨D, hD, ho.mono hn, ha⟩

/-- A set without a number. -/
def without (s x : Nat) : Nat := s ^^^ 2 ^ x

theorem without_bit {s x : Nat} (h : s.testBit x = true) (i : Nat) : (without s x).testBit i = (s.testBit i && !decide (x = i)) := by
  unfold without
  rw [Nat.testBit_xor, Nat.testBit_two_pow]
  by_cases e : x = i
  · subst e; simp [h]
  · simp [e]

theorem pow_1024 {x : Nat} (hx : x < 10) : 2 ^ x < 1024 := Nat.lt_of_lt_of_le (Nat.pow_lt_pow_right (a := 2) (by decide) hx) (by decide)

theorem ofInt_64 (a : Nat) (h : a < 18446744073709551616) : (BitVec.ofInt 64 (a : Int)).toNat = a := by
  rw [BitVec.ofInt_natCast, BitVec.toNat_ofNat]
  exact Nat.mod_eq_of_lt h

theorem without_and {s x : Nat} (hs : s < 1024) (hx : x < 10) (h : s.testBit x = true) : s &&& (18446744073709551615 - 2 ^ x) = without s x := by
  have h2 := pow_1024 hx
  apply Nat.eq_of_testBit_eq
  intro i
  rw [show 18446744073709551615 - 2 ^ x = 2 ^ 64 - (2 ^ x + 1) by omega, Nat.testBit_and, Nat.testBit_two_pow_sub_succ (by omega), Nat.testBit_two_pow, without_bit h]
  by_cases h64 : i < 64
  · simp [h64]
  · have : s.testBit i = false := Nat.testBit_lt_two_pow (Nat.lt_of_lt_of_le hs (Nat.le_trans (by decide : 1024 ≤ 2 ^ 64) (Nat.pow_le_pow_right (by decide) (by omega))))
    simp [this]

theorem without_lt {s x : Nat} (hs : s < 1024) (hx : x < 10) (h : s.testBit x = true) : without s x < s := by
  have h1 : without s x ≤ s := by rw [← without_and hs hx h]; exact Nat.and_le_left
  have h2 : without s x ≠ s := fun e => by
    have := without_bit h x
    rw [e, h] at this
    simp at this
  omega

theorem without_bits {s x : Nat} (hs : s < 1024) (hx : x < 10) (h : s.testBit x = true) : bits .andNot .i64 (s : Int) ((2 : Int) ^ x) = ((without s x : Nat) : Int) := by
  have h2 := pow_1024 hx
  have h3 := without_lt hs hx h
  rw [show (2 : Int) ^ x = ((2 ^ x : Nat) : Int) by simp]
  show IntKind.i64.wrap ((BitVec.ofInt 64 (s : Int) &&& ~~~BitVec.ofInt 64 ((2 ^ x : Nat) : Int)).toNat : Int) = _
  rw [BitVec.toNat_and, BitVec.toNat_not, ofInt_64 s (by omega), ofInt_64 (2 ^ x) (by omega), show 2 ^ 64 - 1 - 2 ^ x = 18446744073709551615 - 2 ^ x by omega, without_and hs hx h]
  exact IntWalk.i64_in _ (by omega)

end Go.Proofs.Ytkfhmfidgdpeiaa
