/- Contract of sort.Search. (Made by gen_k1.py.) -/
import Derived.Test.YtkfhmfidgdpeiaaB1
import Derived.WalkKit
namespace Go.Proofs.Ytkfhmfidgdpeiaa
set_option linter.unusedVariables false
set_option linter.unusedSimpArgs false
open Go.RowKit

set_option maxRecDepth 100000 in
set_option maxHeartbeats 2000000 in
theorem search1 (n : Int) (h0 : 0 ≤ n) (h1 : n ≤ 1000000000000) (p : Int → Bool) (hm : ∀ a b, 0 ≤ a → a ≤ b → b < n → p a = true → p b = true) (fid : FuncId) (c0 : Value) (w : World)
    (hcall : ∀ (args : Array Value) (W : World), (callFunc fid args).run Try.prog W = .ok (.enter fid args) W)
    (hf : ∀ (h : Int) (W : World), Gr w W → 0 ≤ h → h < n → Calls Try.prog fid #[.int .i64 h, c0] W fun e W' => e = .returned (.bool (p h)) ∧ Gr W W') :
    Calls Try.prog 83 #[.int .i64 n, .func (.func fid) #[] #[c0]] w fun e w' => ∃ r, e = .returned (.int .i64 r) ∧ 0 ≤ r ∧ r ≤ n ∧ (∀ a, 0 ≤ a → a < r → p a = false) ∧ (∀ a, r ≤ a → a < n → p a = true) ∧ Gr w w' := by
  have HM := Lib.hid hm
  have HF := Lib.hid hf
  clear hm hf
  go_enter Try.func83, Try.ntmps83
  go_wp2
  go_loopw [5, 6] (fun x y wr => Hid (∃ i j : Int, x = .int .i64 i ∧ y = .int .i64 j ∧ 0 ≤ i ∧ i ≤ j ∧ j ≤ n ∧ (∀ a, 0 ≤ a → a < i → p a = false) ∧ (∀ a, j ≤ a → a < n → p a = true) ∧ Gr w wr)) (fun x y wr => (intOf y - intOf x).toNat)
  case atStart => exact Lib.hid ⟨0, n, rfl, rfl, by omega, h0, by omega, fun a a0 a1 => by omega, fun a a0 a1 => by omega, Below.refl _ _⟩
  case round =>
    obtain ⟨i, j, rfl, rfl, i0, ij, jn, hlo, hhi, gW⟩ := hrel.out
    clear hrel
    have HL := Lib.hid hlo
    have HH := Lib.hid hhi
    clear hlo hhi
    by_cases hlt : i < j
    · have hw1 : IntKind.i64.wrap (i + j) = i + j := IntWalk.i64_in _ (by omega)
      go_wp2_with fail
      refine (HF.out _ wr gW (by omega) (by omega)).mono ?_
      rintro e w2 ⟨rfl, hy⟩
      cases hp : p ((i + j) / 2) with
      | true =>
        have Hp := Lib.hid hp
        clear hp
        go_wp2
        go_roundw
        case rel => exact Lib.hid ⟨i, (i + j) / 2, rfl, rfl, i0, by omega, by omega, HL.out, fun a a0 a1 => HM.out ((i + j) / 2) a (by omega) a0 a1 Hp.out, gW.tr hy⟩
        case measure => simp [intOf]; omega
      | false =>
        have Hp := Lib.hid hp
        clear hp
        have hw2 : IntKind.i64.wrap ((i + j) / 2 + 1) = (i + j) / 2 + 1 := IntWalk.i64_in _ (by omega)
        go_wp2
        go_roundw
        case rel =>
          refine Lib.hid ⟨(i + j) / 2 + 1, j, rfl, rfl, by omega, by omega, jn, fun a a0 a1 => ?_, HH.out, gW.tr hy⟩
          cases hq : p a with
          | false => rfl
          | true =>
            have := HM.out a ((i + j) / 2) a0 (by omega) (by omega) hq
            rw [Hp.out] at this
            cases this
        case measure => simp [intOf]; omega
    · obtain rfl : i = j := by omega
      go_wp2
      go_ret
      exact ⟨i, rfl, i0, jn, HL.out, HH.out, gW⟩

set_option maxRecDepth 100000 in
set_option maxHeartbeats 2000000 in
theorem search2 (n : Int) (h0 : 0 ≤ n) (h1 : n ≤ 1000000000000) (p : Int → Bool) (hm : ∀ a b, 0 ≤ a → a ≤ b → b < n → p a = true → p b = true) (fid : FuncId) (c0 c1 : Value) (w : World)
    (hcall : ∀ (args : Array Value) (W : World), (callFunc fid args).run Try.prog W = .ok (.enter fid args) W)
    (hf : ∀ (h : Int) (W : World), Gr w W → 0 ≤ h → h < n → Calls Try.prog fid #[.int .i64 h, c0, c1] W fun e W' => e = .returned (.bool (p h)) ∧ Gr W W') :
    Calls Try.prog 83 #[.int .i64 n, .func (.func fid) #[] #[c0, c1]] w fun e w' => ∃ r, e = .returned (.int .i64 r) ∧ 0 ≤ r ∧ r ≤ n ∧ (∀ a, 0 ≤ a → a < r → p a = false) ∧ (∀ a, r ≤ a → a < n → p a = true) ∧ Gr w w' := by
  have HM := Lib.hid hm
  have HF := Lib.hid hf
  clear hm hf
  go_enter Try.func83, Try.ntmps83
  go_wp2
  go_loopw [5, 6] (fun x y wr => Hid (∃ i j : Int, x = .int .i64 i ∧ y = .int .i64 j ∧ 0 ≤ i ∧ i ≤ j ∧ j ≤ n ∧ (∀ a, 0 ≤ a → a < i → p a = false) ∧ (∀ a, j ≤ a → a < n → p a = true) ∧ Gr w wr)) (fun x y wr => (intOf y - intOf x).toNat)
  case atStart => exact Lib.hid ⟨0, n, rfl, rfl, by omega, h0, by omega, fun a a0 a1 => by omega, fun a a0 a1 => by omega, Below.refl _ _⟩
  case round =>
    obtain ⟨i, j, rfl, rfl, i0, ij, jn, hlo, hhi, gW⟩ := hrel.out
    clear hrel
    have HL := Lib.hid hlo
    have HH := Lib.hid hhi
    clear hlo hhi
    by_cases hlt : i < j
    · have hw1 : IntKind.i64.wrap (i + j) = i + j := IntWalk.i64_in _ (by omega)
      go_wp2_with fail
      refine (HF.out _ wr gW (by omega) (by omega)).mono ?_
      rintro e w2 ⟨rfl, hy⟩
      cases hp : p ((i + j) / 2) with
      | true =>
        have Hp := Lib.hid hp
        clear hp
        go_wp2
        go_roundw
        case rel => exact Lib.hid ⟨i, (i + j) / 2, rfl, rfl, i0, by omega, by omega, HL.out, fun a a0 a1 => HM.out ((i + j) / 2) a (by omega) a0 a1 Hp.out, gW.tr hy⟩
        case measure => simp [intOf]; omega
      | false =>
        have Hp := Lib.hid hp
        clear hp
        have hw2 : IntKind.i64.wrap ((i + j) / 2 + 1) = (i + j) / 2 + 1 := IntWalk.i64_in _ (by omega)
        go_wp2
        go_roundw
        case rel =>
          refine Lib.hid ⟨(i + j) / 2 + 1, j, rfl, rfl, by omega, by omega, jn, fun a a0 a1 => ?_, HH.out, gW.tr hy⟩
          cases hq : p a with
          | false => rfl
          | true =>
            have := HM.out a ((i + j) / 2) a0 (by omega) (by omega) hq
            rw [Hp.out] at this
            cases this
        case measure => simp [intOf]; omega
    · obtain rfl : i = j := by omega
      go_wp2
      go_ret
      exact ⟨i, rfl, i0, jn, HL.out, HH.out, gW⟩

/-- The greatest integer whose square is at most n. -/
def rootN : Nat → Nat
  | 0 => 0
  | n + 1 => if (rootN n + 1) * (rootN n + 1) ≤ n + 1 then rootN n + 1 else rootN n

theorem rootN_spec : ∀ n, rootN n * rootN n ≤ n ∧ n < (rootN n + 1) * (rootN n + 1)
  | 0 => by simp [rootN]
  | n + 1 => by
    obtain ⟨a, b⟩ := rootN_spec n
    unfold rootN
    split
    · rename_i h
      refine ⟨h, ?_⟩
      have e : (rootN n + 1 + 1) * (rootN n + 1 + 1) = (rootN n + 1) * (rootN n + 1) + 2 * (rootN n + 1) + 1 := by
        simp only [Nat.add_mul, Nat.mul_add]
        omega
      omega
    · omega

def rootL (n : Int) : Int := rootN n.toNat

theorem root_unique {n r s : Int} (r0 : 0 ≤ r) (s0 : 0 ≤ s) (r1 : r * r ≤ n) (r2 : n < (r + 1) * (r + 1)) (s1 : s * s ≤ n) (s2 : n < (s + 1) * (s + 1)) : r = s := by
  have key : ∀ a b : Int, 0 ≤ a → 0 ≤ b → a * a ≤ n → n < (b + 1) * (b + 1) → a ≤ b := fun a b a0 b0 h1 h2 => by
    rcases Int.lt_or_le b a with h | h
    · exfalso
      have : (b + 1) * (b + 1) ≤ a * a := Int.mul_le_mul (by omega) (by omega) (by omega) a0
      omega
    · exact h
  have := key r s r0 s0 r1 s2
  have := key s r s0 r0 s1 r2
  omega

theorem rootL_spec {n : Int} (h : 0 ≤ n) : 0 ≤ rootL n ∧ rootL n * rootL n ≤ n ∧ n < (rootL n + 1) * (rootL n + 1) := by
  obtain ⟨a, b⟩ := rootN_spec n.toNat
  unfold rootL
  refine ⟨Int.natCast_nonneg _, ?_, ?_⟩
  · have : ((rootN n.toNat * rootN n.toNat : Nat) : Int) ≤ n := by omega
    simpa using this
  · have : n < (((rootN n.toNat + 1) * (rootN n.toNat + 1) : Nat) : Int) := by omega
    simpa using this

theorem rootL_is {n r : Int} (h : 0 ≤ n) (r0 : 0 ≤ r) (r1 : r * r ≤ n) (r2 : n < (r + 1) * (r + 1)) : rootL n = r := by
  obtain ⟨a, b, c⟩ := rootL_spec h
  exact root_unique a r0 b c r1 r2

theorem rootL_bd {n : Int} (h : 0 ≤ n) (h1 : n ≤ 1000000000000) : 0 ≤ rootL n ∧ rootL n ≤ 1000000 := by
  obtain ⟨a, b, c⟩ := rootL_spec h
  refine ⟨a, ?_⟩
  rcases Int.lt_or_le 1000000 (rootL n) with h2 | h2
  · have : (1000001 : Int) * 1000001 ≤ rootL n * rootL n := Int.mul_le_mul (by omega) (by omega) (by omega) a
    omega
  · exact h2

theorem callRoot (args : Array Value) (W : World) : (callFunc 111 args).run Try.prog W = .ok (.enter 111 args) W := by kernel_rfl

theorem rootClosure (n h : Int) (n1 : n ≤ 200000000) (n0 : 0 ≤ n) (h0 : 0 ≤ h) (h1 : h < n) (b : Nat) (W : World) (hb : W.cell? ⟨b, 0, none⟩ = some (.int .i64 n)) :
    Calls Try.prog 111 #[.int .i64 h, .pointer (some ⟨b, 0, none⟩)] W fun e W' => e = .returned (.bool (decide (n < (h + 1) * (h + 1)))) ∧ Gr W W' := by
  have m0 : 0 ≤ (h + 1) * (h + 1) := Int.mul_nonneg (by omega) (by omega)
  have m1 : (h + 1) * (h + 1) ≤ 200000001 * 200000001 := Int.mul_le_mul (by omega) (by omega) (by omega) (by omega)
  have hw : IntKind.i64.wrap ((h + 1) * (h + 1)) = (h + 1) * (h + 1) := IntWalk.i64_in _ (by omega)
  go_enter Try.func111, Try.ntmps111
  go_wp2
  go_ret
  exact ⟨rfl, Below.refl _ _⟩

set_option maxRecDepth 100000 in
set_option maxHeartbeats 1000000 in
theorem root_any (n : Int) (n0 : 1 ≤ n) (n1 : n ≤ 200000000) (w : World) :
    Calls Try.prog 99 #[.int .i64 n] w fun e w' => e = .returned (.int .i64 (rootL n)) ∧ Gr w w' := by
  have hb := Box.new w [.int .i64 n] 3 w.heap.size rfl
  have hb0 := hb.c1
  have gg := Gr.al w (.cells #[.int .i64 n] 3)
  have hs := search1 n (by omega) (by omega) (fun h => decide (n < (h + 1) * (h + 1))) (fun a b a0 ab bn h => by
    have h' := of_decide_eq_true h
    refine decide_eq_true ?_
    have : (a + 1) * (a + 1) ≤ (b + 1) * (b + 1) := Int.mul_le_mul (by omega) (by omega) (by omega) (by omega)
    omega) 111 (.pointer (some ⟨w.heap.size, 0, none⟩)) (w.alloc (.cells #[.int .i64 n] 3)) callRoot (fun h W hW h0 h1 => rootClosure n h n1 (by omega) h0 h1 _ W (hW.keep hb0))
  have HS := Lib.hid hs
  have HG := Lib.hid gg
  clear hs hb gg
  go_enter Try.func99, Try.ntmps99
  go_wp2_with (go_at_call 83; refine HS.out.mono ?_; rintro e w2 ⟨r, rfl, r0, r1, hlo, hhi, hg⟩)
  have er : rootL n = r := by
    refine rootL_is (by omega) r0 ?_ ?_
    · rcases Int.lt_or_le 0 r with h | h
      · have := hlo (r - 1) (by omega) (by omega)
        have := of_decide_eq_false this
        simp only [Int.sub_add_cancel] at this
        omega
      · have e : r = 0 := by omega
        subst e
        simp
        omega
    · rcases Int.lt_or_le r n with h | h
      · exact of_decide_eq_true (hhi r (Int.le_refl _) h)
      · have e : r = n := by omega
        subst e
        have : r * 1 ≤ r * (r + 1) := Int.mul_le_mul_of_nonneg_left (by omega) (by omega)
        rw [Int.add_mul]
        omega
  have Er := Lib.hid er
  clear er hlo hhi
  go_ret
  exact ⟨ret_int Er.out.symm, HG.out.tr hg⟩

end Go.Proofs.Ytkfhmfidgdpeiaa
