/- The reference's In, Span, Box, Strength of chapter 3. -/
import Derived.Test.YtkfhmfidgdpeiaaK3
import Derived.BigQuiet
namespace Go.Proofs.Ytkfhmfidgdpeiaa
set_option linter.unusedVariables false
set_option linter.unusedSimpArgs false
open Go.RowKit

theorem refIn_any (n lo hi : Int) (d : Bool) (hd : in1 lo hi n = d) (w : World) :
    Calls Try.prog 25 #[.int .i64 n, .int .i64 lo, .int .i64 hi] w fun e w' => e = .returned (.bool d) ∧ Gr w w' := by
  subst hd
  by_cases h : lo ≤ n
  · have E := Lib.hid (show in1 lo hi n = decide (n ≤ hi) by simp [in1, h])
    go_enter Try.func25, Try.ntmps25
    go_wp2
    go_ret
    exact ⟨ret_bool E.out.symm, Below.refl _ _⟩
  · have E := Lib.hid (show in1 lo hi n = false by simp [in1, h])
    have h' : decide (lo ≤ n) = false := by simpa using h
    go_enter Try.func25, Try.ntmps25
    go_wp2
    go_ret
    exact ⟨ret_bool E.out.symm, Below.refl _ _⟩

set_option maxRecDepth 100000 in
theorem refSpan_any (a b lo hi : Int) (d : Bool) (hd : okSpan lo hi a b = d) (w : World) :
    Calls Try.prog 72 #[.agg #[.int .i64 a, .int .i64 b], .int .i64 lo, .int .i64 hi] w fun e w' => e = .returned (.bool d) ∧ Gr w w' := by
  have gg := Gr.al w (.cells #[.int .i64 a, .int .i64 b] 45)
  have hb := Box.new w [.int .i64 a, .int .i64 b] 45 w.heap.size rfl
  obtain ⟨q0, q1⟩ := hb.c2
  cases c : in1 lo b a with
  | true =>
    have E := Lib.hid (show d = decide (b ≤ hi) by
      rw [← hd]
      simp [in1] at c
      by_cases h : b ≤ hi
      · simp [okSpan, inB, in1, h]
        omega
      · simp [okSpan, inB, in1, h])
    clear hd
    go_enter Try.func72, Try.ntmps72
    go_wp2_with (go_at_call 25; refine (refIn_any a lo b true c _).mono ?_; rintro e w1 ⟨rfl, g1⟩; replace hb := hb.keep g1; clear q0 q1; obtain ⟨q0, q1⟩ := hb.c2)
    go_ret
    exact ⟨ret_bool E.out.symm, gg.tr g1⟩
  | false =>
    have E := Lib.hid (show d = false by
      rw [← hd]
      cases h : okSpan lo hi a b with
      | false => rfl
      | true =>
        simp [okSpan, inB, in1] at h
        simp [in1] at c
        omega)
    clear hd
    go_enter Try.func72, Try.ntmps72
    go_wp2_with (go_at_call 25; refine (refIn_any a lo b false c _).mono ?_; rintro e w1 ⟨rfl, g1⟩; replace hb := hb.keep g1; clear q0 q1; obtain ⟨q0, q1⟩ := hb.c2)
    go_ret
    exact ⟨ret_bool E.out.symm, gg.tr g1⟩

theorem sq_bd {r N : Int} (h0 : 0 ≤ r) (h1 : r * r ≤ N) (h2 : N ≤ 200000000) : r ≤ 15000 := by
  rcases Int.lt_or_le 15000 r with h | h
  · have h3 : 15001 * 15001 ≤ r * r := Int.mul_le_mul (by omega) (by omega) (by omega) h0
    omega
  · exact h

set_option maxRecDepth 100000 in
set_option maxHeartbeats 2000000 in
theorem refStrength_any (edge cal ar ru : Int) (e0 : 0 ≤ edge) (e1 : edge ≤ 100000) (c0 : 1 ≤ cal) (c1 : cal ≤ 10000) (a0 : 1 ≤ ar) (a1 : ar ≤ 20000) (u0 : 1 ≤ ru) (u1 : ru ≤ 1000) (w : World) :
    Calls Try.prog 32 #[.int .i64 edge, .int .i64 cal, .int .i64 ar, .int .i64 ru] w fun e w' => e = .returned (.int .i64 (strongB ar ru edge cal)) ∧ Gr w w' := by
  have m0 : 1 ≤ cal * ar := by have := Int.mul_le_mul c0 a0 (by omega) (by omega); omega
  have m1 : cal * ar ≤ 10000 * 20000 := Int.mul_le_mul c1 a1 (by omega) (by omega)
  obtain ⟨N, hN⟩ : ∃ N, cal * ar = N := ⟨_, rfl⟩
  have E : strongB ar ru edge cal = edge * rootL N * ru / 100000 := by unfold strongB; rw [hN]
  have HE := Lib.hid E
  have wN : IntKind.i64.wrap (cal * ar) = N := by rw [IntWalk.i64_in _ (by omega)]; exact hN
  rw [hN] at m0 m1
  clear hN E
  go_enter Try.func32, Try.ntmps32
  go_wp2
  go_loopw [9] (fun i wr => Hid (∃ r : Nat, i = .int .i64 r ∧ (r : Int) * r ≤ N ∧ Gr w wr)) (fun i _ => 20000 - (intOf i).toNat)
  case atStart => exact Lib.hid ⟨0, rfl, by omega, Below.refl _ _⟩
  case round =>
    obtain ⟨r, rfl, hr, gW⟩ := hrel.out
    clear hrel
    have hb := sq_bd (by omega) hr (by omega)
    obtain ⟨P, hP⟩ : ∃ P, ((r : Int) + 1) * ((r : Int) + 1) = P := ⟨_, rfl⟩
    have p0 : 0 ≤ P := by rw [← hP]; exact Int.mul_nonneg (by omega) (by omega)
    have p1 : P ≤ 15001 * 15001 := by rw [← hP]; exact Int.mul_le_mul (by omega) (by omega) (by omega) (by omega)
    have w0 : IntKind.i64.wrap ((r : Int) + 1) = (r : Int) + 1 := IntWalk.i64_in _ (by omega)
    have w1 : IntKind.i64.wrap (((r : Int) + 1) * ((r : Int) + 1)) = P := by rw [hP]; exact IntWalk.i64_in _ (by omega)
    by_cases hlt : P ≤ N
    · have HP := Lib.hid hP
      clear hP
      go_wp2
      go_roundw
      case rel => exact Lib.hid ⟨r + 1, by go_num, by have := HP.out; push_cast; omega, gW⟩
      case measure => simp [intOf]; omega
    · have hroot : rootL N = (r : Int) := rootL_is (by omega) (by omega) hr (by rw [hP]; omega)
      obtain ⟨A1, hA1⟩ : ∃ A1, edge * (r : Int) = A1 := ⟨_, rfl⟩
      have q0 : 0 ≤ A1 := by rw [← hA1]; exact Int.mul_nonneg e0 (by omega)
      have q1 : A1 ≤ 100000 * 15000 := by rw [← hA1]; exact Int.mul_le_mul e1 hb (by omega) (by omega)
      obtain ⟨A2, hA2⟩ : ∃ A2, A1 * ru = A2 := ⟨_, rfl⟩
      have q2 : 0 ≤ A2 := by rw [← hA2]; exact Int.mul_nonneg q0 (by omega)
      have q3 : A2 ≤ 100000 * 15000 * 1000 := by rw [← hA2]; exact Int.mul_le_mul q1 u1 (by omega) (by omega)
      have w2 : IntKind.i64.wrap (edge * (r : Int)) = A1 := by rw [hA1]; exact IntWalk.i64_in _ (by omega)
      have w3 : IntKind.i64.wrap (A1 * ru) = A2 := by rw [hA2]; exact IntWalk.i64_in _ (by omega)
      have z0 : A2.tdiv 100000 = A2 / 100000 := Int.tdiv_eq_ediv_of_nonneg q2
      have w4 : IntKind.i64.wrap (A2 / 100000) = A2 / 100000 := IntWalk.i64_in _ (by omega)
      have HE2 := Lib.hid (show strongB ar ru edge cal = A2 / 100000 by rw [HE.out, hroot, hA1, hA2])
      clear hA1 hA2 hroot hP
      go_wp2
      go_ret
      exact ⟨by rw [HE2.out]; rfl, gW⟩

set_option maxRecDepth 100000 in
set_option maxHeartbeats 2000000 in
theorem refBox_any (el eh cl ch ar ru : Int) (d : Bool) (hd : boxOk el eh cl ch ar ru = d) (w : World) :
    Calls Try.prog 30 #[.agg #[.int .i64 el, .int .i64 eh, .int .i64 cl, .int .i64 ch, .int .i64 ar, .int .i64 ru]] w fun e w' => e = .returned (.bool d) ∧ Gr w w' := by
  have gg := Gr.al w (.cells #[.int .i64 el, .int .i64 eh, .int .i64 cl, .int .i64 ch, .int .i64 ar, .int .i64 ru] 47)
  have hb := Box.new w [.int .i64 el, .int .i64 eh, .int .i64 cl, .int .i64 ch, .int .i64 ar, .int .i64 ru] 47 w.heap.size rfl
  obtain ⟨q0, q1, q2, q3, q4, q5⟩ := hb.c6'
  have HD : d = (okSpan 0 100000 el eh && okSpan 1 10000 cl ch && in1 1 20000 ar && in1 1 1000 ru) := by
    rw [← hd]
    simp [boxOk, inB]
  clear hd
  have tok0 : True := trivial
  have tok1 : True := trivial
  cases c0 : okSpan 0 100000 el eh <;> cases c1 : okSpan 1 10000 cl ch <;> cases c2 : in1 1 20000 ar <;> cases c3 : in1 1 1000 ru
  all_goals
    rw [c0, c1, c2, c3] at HD
    have HD2 := Lib.hid HD
    clear HD
    go_enter Try.func30, Try.ntmps30
    go_wp2_with (first
      | (have _t := tok0; clear tok0 _t; go_at_call 72; refine (refSpan_any el eh 0 100000 _ c0 _).mono ?_; rintro e w1 ⟨rfl, hx⟩; replace gg := gg.tr hx; replace hb := hb.keep hx; clear hx q0 q1 q2 q3 q4 q5; obtain ⟨q0, q1, q2, q3, q4, q5⟩ := hb.c6')
      | (go_at_call 72; refine (refSpan_any cl ch 1 10000 _ c1 _).mono ?_; rintro e w1 ⟨rfl, hx⟩; replace gg := gg.tr hx; replace hb := hb.keep hx; clear hx q0 q1 q2 q3 q4 q5; obtain ⟨q0, q1, q2, q3, q4, q5⟩ := hb.c6')
      | (have _t := tok1; clear tok1 _t; go_at_call 25; refine (refIn_any ar 1 20000 _ c2 _).mono ?_; rintro e w1 ⟨rfl, hx⟩; replace gg := gg.tr hx; replace hb := hb.keep hx; clear hx q0 q1 q2 q3 q4 q5; obtain ⟨q0, q1, q2, q3, q4, q5⟩ := hb.c6')
      | (go_at_call 25; refine (refIn_any ru 1 1000 _ c3 _).mono ?_; rintro e w1 ⟨rfl, hx⟩; replace gg := gg.tr hx; replace hb := hb.keep hx; clear hx q0 q1 q2 q3 q4 q5; obtain ⟨q0, q1, q2, q3, q4, q5⟩ := hb.c6'))
    go_ret
    exact ⟨ret_bool HD2.out.symm, gg⟩

end Go.Proofs.Ytkfhmfidgdpeiaa
