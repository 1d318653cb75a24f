/- The reference's In, Span, Box, Strength of chapter 3. The reference's Readings, Rule, Passes of chapter 3; Decide and Need of what is not valid. (Made by gen_o4.py.) A region that draws its order, in which two rows are appended to, one after the other: the facts of the other operations stay while blocks of Z alone turn; the rows' state goes from S0 to S1 to S2. The reference's Truth and Decide of chapter 3. (Made by gen_o5.py.) The reference's Decide of chapter 3. (Made by gen_o6.py.) The law's ints of any slice; the reference's Need of chapter 3. (Made by gen_o7.py.) -/
import Derived.Test.YtkfhmfidgdpeiaaK3
import Derived.BigQuiet
import Derived.Test.YtkfhmfidgdpeiaaQd
import Derived.Test.YtkfhmfidgdpeiaaQl
import Derived.Test.YtkfhmfidgdpeiaaR5
import Derived.Test.YtkfhmfidgdpeiaaQi
import Derived.Lib.MinMax
import Derived.Deep.CutRange
import Derived.Deep.MidRow
import Derived.Deep.AppendLies
namespace Go.Proofs.Ytkfhmfidgdpeiaa
set_option linter.unusedVariables false
set_option linter.unusedSimpArgs false
open Go.RowKit

theorem refIn_any (n lo hi : Int) (d : Bool) (hd : in1 lo hi n = d) (w : World) :
    Calls Try.prog 25 #[.int .i64 n, .int .i64 lo, .int .i64 hi] w fun e w' => e = .returned (.bool d) ∧ Gr w w' := by
  subst hd
  by_cases h : lo ≤ n
  · have E := Lib.hid (show in1 lo hi n = decide (n ≤ hi) by simp [in1, h])
    go_enter Try.func25, Try.ntmps25
    go_wp2
    go_ret
    exact ⟨ret_bool E.out.symm, Below.refl _ _⟩
  · have E := Lib.hid (show in1 lo hi n = false by simp [in1, h])
    have h' : decide (lo ≤ n) = false := by simpa using h
    go_enter Try.func25, Try.ntmps25
    go_wp2
    go_ret
    exact ⟨ret_bool E.out.symm, Below.refl _ _⟩

set_option maxRecDepth 100000 in
theorem refSpan_any (a b lo hi : Int) (d : Bool) (hd : okSpan lo hi a b = d) (w : World) :
    Calls Try.prog 72 #[.agg #[.int .i64 a, .int .i64 b], .int .i64 lo, .int .i64 hi] w fun e w' => e = .returned (.bool d) ∧ Gr w w' := by
  have gg := Gr.al w (.cells #[.int .i64 a, .int .i64 b] 45)
  have hb := Box.new w [.int .i64 a, .int .i64 b] 45 w.heap.size rfl
  obtain ⟨q0, q1⟩ := hb.c2
  cases c : in1 lo b a with
  | true =>
    have E := Lib.hid (show d = decide (b ≤ hi) by
      rw [← hd]
      simp [in1] at c
      by_cases h : b ≤ hi
      · simp [okSpan, inB, in1, h]
        omega
      · simp [okSpan, inB, in1, h])
    clear hd
    go_enter Try.func72, Try.ntmps72
    go_wp2_with (go_at_call 25; refine (refIn_any a lo b true c _).mono ?_; rintro e w1 ⟨rfl, g1⟩; replace hb := hb.keep g1; clear q0 q1; obtain ⟨q0, q1⟩ := hb.c2)
    go_ret
    exact ⟨ret_bool E.out.symm, gg.tr g1⟩
  | false =>
    have E := Lib.hid (show d = false by
      rw [← hd]
      cases h : okSpan lo hi a b with
      | false => rfl
      | true =>
        simp [okSpan, inB, in1] at h
        simp [in1] at c
        omega)
    clear hd
    go_enter Try.func72, Try.ntmps72
    go_wp2_with (go_at_call 25; refine (refIn_any a lo b false c _).mono ?_; rintro e w1 ⟨rfl, g1⟩; replace hb := hb.keep g1; clear q0 q1; obtain ⟨q0, q1⟩ := hb.c2)
    go_ret
    exact ⟨ret_bool E.out.symm, gg.tr g1⟩

theorem sq_bd {r N : Int} (h0 : 0 ≤ r) (h1 : r * r ≤ N) (h2 : N ≤ 200000000) : r ≤ 15000 := by
  rcases Int.lt_or_le 15000 r with h | h
  · have h3 : 15001 * 15001 ≤ r * r := Int.mul_le_mul (by omega) (by omega) (by omega) h0
    omega
  · exact h

set_option maxRecDepth 100000 in
set_option maxHeartbeats 2000000 in
theorem refStrength_any (edge cal ar ru : Int) (e0 : 0 ≤ edge) (e1 : edge ≤ 100000) (c0 : 1 ≤ cal) (c1 : cal ≤ 10000) (a0 : 1 ≤ ar) (a1 : ar ≤ 20000) (u0 : 1 ≤ ru) (u1 : ru ≤ 1000) (w : World) :
    Calls Try.prog 32 #[.int .i64 edge, .int .i64 cal, .int .i64 ar, .int .i64 ru] w fun e w' => e = .returned (.int .i64 (strongB ar ru edge cal)) ∧ Gr w w' := by
  have m0 : 1 ≤ cal * ar := by have := Int.mul_le_mul c0 a0 (by omega) (by omega); omega
  have m1 : cal * ar ≤ 10000 * 20000 := Int.mul_le_mul c1 a1 (by omega) (by omega)
  obtain ⟨N, hN⟩ : ∃ N, cal * ar = N := ⟨_, rfl⟩
  have E : strongB ar ru edge cal = edge * rootL N * ru / 100000 := by unfold strongB; rw [hN]
  have HE := Lib.hid E
  have wN : IntKind.i64.wrap (cal * ar) = N := by rw [IntWalk.i64_in _ (by omega)]; exact hN
  rw [hN] at m0 m1
  clear hN E
  go_enter Try.func32, Try.ntmps32
  go_wp2
  go_loopw [9] (fun i wr => Hid (∃ r : Nat, i = .int .i64 r ∧ (r : Int) * r ≤ N ∧ Gr w wr)) (fun i _ => 20000 - (intOf i).toNat)
  case atStart => exact Lib.hid ⟨0, rfl, by omega, Below.refl _ _⟩
  case round =>
    obtain ⟨r, rfl, hr, gW⟩ := hrel.out
    clear hrel
    have hb := sq_bd (by omega) hr (by omega)
    obtain ⟨P, hP⟩ : ∃ P, ((r : Int) + 1) * ((r : Int) + 1) = P := ⟨_, rfl⟩
    have p0 : 0 ≤ P := by rw [← hP]; exact Int.mul_nonneg (by omega) (by omega)
    have p1 : P ≤ 15001 * 15001 := by rw [← hP]; exact Int.mul_le_mul (by omega) (by omega) (by omega) (by omega)
    have w0 : IntKind.i64.wrap ((r : Int) + 1) = (r : Int) + 1 := IntWalk.i64_in _ (by omega)
    have w1 : IntKind.i64.wrap (((r : Int) + 1) * ((r : Int) + 1)) = P := by rw [hP]; exact IntWalk.i64_in _ (by omega)
    by_cases hlt : P ≤ N
    · have HP := Lib.hid hP
      clear hP
      go_wp2
      go_roundw
      case rel => exact Lib.hid ⟨r + 1, by go_num, by have := HP.out; push_cast; omega, gW⟩
      case measure => simp [intOf]; omega
    · have hroot : rootL N = (r : Int) := rootL_is (by omega) (by omega) hr (by rw [hP]; omega)
      obtain ⟨A1, hA1⟩ : ∃ A1, edge * (r : Int) = A1 := ⟨_, rfl⟩
      have q0 : 0 ≤ A1 := by rw [← hA1]; exact Int.mul_nonneg e0 (by omega)
      have q1 : A1 ≤ 100000 * 15000 := by rw [← hA1]; exact Int.mul_le_mul e1 hb (by omega) (by omega)
      obtain ⟨A2, hA2⟩ : ∃ A2, A1 * ru = A2 := ⟨_, rfl⟩
      have q2 : 0 ≤ A2 := by rw [← hA2]; exact Int.mul_nonneg q0 (by omega)
      have q3 : A2 ≤ 100000 * 15000 * 1000 := by rw [← hA2]; exact Int.mul_le_mul q1 u1 (by omega) (by omega)
      have w2 : IntKind.i64.wrap (edge * (r : Int)) = A1 := by rw [hA1]; exact IntWalk.i64_in _ (by omega)
      have w3 : IntKind.i64.wrap (A1 * ru) = A2 := by rw [hA2]; exact IntWalk.i64_in _ (by omega)
      have z0 : A2.tdiv 100000 = A2 / 100000 := Int.tdiv_eq_ediv_of_nonneg q2
      have w4 : IntKind.i64.wrap (A2 / 100000) = A2 / 100000 := IntWalk.i64_in _ (by omega)
      have HE2 := Lib.hid (show strongB ar ru edge cal = A2 / 100000 by rw [HE.out, hroot, hA1, hA2])
      clear hA1 hA2 hroot hP
      go_wp2
      go_ret
      exact ⟨by rw [HE2.out]; rfl, gW⟩

set_option maxRecDepth 100000 in
set_option maxHeartbeats 2000000 in
theorem refBox_any (el eh cl ch ar ru : Int) (d : Bool) (hd : boxOk el eh cl ch ar ru = d) (w : World) :
    Calls Try.prog 30 #[.agg #[.int .i64 el, .int .i64 eh, .int .i64 cl, .int .i64 ch, .int .i64 ar, .int .i64 ru]] w fun e w' => e = .returned (.bool d) ∧ Gr w w' := by
  have gg := Gr.al w (.cells #[.int .i64 el, .int .i64 eh, .int .i64 cl, .int .i64 ch, .int .i64 ar, .int .i64 ru] 47)
  have hb := Box.new w [.int .i64 el, .int .i64 eh, .int .i64 cl, .int .i64 ch, .int .i64 ar, .int .i64 ru] 47 w.heap.size rfl
  obtain ⟨q0, q1, q2, q3, q4, q5⟩ := hb.c6'
  have HD : d = (okSpan 0 100000 el eh && okSpan 1 10000 cl ch && in1 1 20000 ar && in1 1 1000 ru) := by
    rw [← hd]
    simp [boxOk, inB]
  clear hd
  have tok0 : True := trivial
  have tok1 : True := trivial
  cases c0 : okSpan 0 100000 el eh <;> cases c1 : okSpan 1 10000 cl ch <;> cases c2 : in1 1 20000 ar <;> cases c3 : in1 1 1000 ru
  all_goals
    rw [c0, c1, c2, c3] at HD
    have HD2 := Lib.hid HD
    clear HD
    go_enter Try.func30, Try.ntmps30
    go_wp2_with (first
      | (have _t := tok0; clear tok0 _t; go_at_call 72; refine (refSpan_any el eh 0 100000 _ c0 _).mono ?_; rintro e w1 ⟨rfl, hx⟩; replace gg := gg.tr hx; replace hb := hb.keep hx; clear hx q0 q1 q2 q3 q4 q5; obtain ⟨q0, q1, q2, q3, q4, q5⟩ := hb.c6')
      | (go_at_call 72; refine (refSpan_any cl ch 1 10000 _ c1 _).mono ?_; rintro e w1 ⟨rfl, hx⟩; replace gg := gg.tr hx; replace hb := hb.keep hx; clear hx q0 q1 q2 q3 q4 q5; obtain ⟨q0, q1, q2, q3, q4, q5⟩ := hb.c6')
      | (have _t := tok1; clear tok1 _t; go_at_call 25; refine (refIn_any ar 1 20000 _ c2 _).mono ?_; rintro e w1 ⟨rfl, hx⟩; replace gg := gg.tr hx; replace hb := hb.keep hx; clear hx q0 q1 q2 q3 q4 q5; obtain ⟨q0, q1, q2, q3, q4, q5⟩ := hb.c6')
      | (go_at_call 25; refine (refIn_any ru 1 1000 _ c3 _).mono ?_; rintro e w1 ⟨rfl, hx⟩; replace gg := gg.tr hx; replace hb := hb.keep hx; clear hx q0 q1 q2 q3 q4 q5; obtain ⟨q0, q1, q2, q3, q4, q5⟩ := hb.c6'))
    go_ret
    exact ⟨ret_bool HD2.out.symm, gg⟩

end Go.Proofs.Ytkfhmfidgdpeiaa

namespace Go.Proofs.Ytkfhmfidgdpeiaa
set_option linter.unusedVariables false
set_option linter.unusedSimpArgs false
open Go.RowKit

set_option maxRecDepth 100000 in
set_option maxHeartbeats 1000000 in
theorem refReadings_any (l : List Int) (d : Bool) (hd : inB 0 100000 l = d) (a : Option Addr) (cap : Nat) (w : World) (hr : IRow w a l) :
    Calls Try.prog 26 #[.slice a l.length cap] w fun e w' => e = .returned (.bool d) ∧ Gr w w' := by
  have hl0 := hr.1
  have HD := Lib.hid hd
  clear hd
  go_enter Try.func26, Try.ntmps26
  go_wp2
  go_loopw [3] (fun i wr => Hid (∃ k : Nat, k ≤ l.length ∧ i = .int .i64 k ∧ Gr w wr ∧ inB 0 100000 (l.take k) = true)) (fun i _ => l.length - (intOf i).toNat)
  case atStart => exact Lib.hid ⟨0, Nat.zero_le _, rfl, Below.refl _ _, by simp [inB]⟩
  case round =>
    obtain ⟨k, hk, rfl, gW, ht⟩ := hrel.out
    clear hrel
    by_cases hlt : k < l.length
    · obtain ⟨x, hx⟩ : ∃ x, l[k]? = some x := ⟨l[k], by simp [hlt]⟩
      obtain ⟨b1, o1, rfl, h1, cc⟩ := IRow.get (hr.grow gW) hx
      cases c : in1 0 100000 x with
      | true =>
        have hn : inB 0 100000 (l.take (k + 1)) = true := by
          rw [List.take_add_one, hx, Option.toList_some]
          unfold inB at ht ⊢
          rw [List.all_append, ht]
          simp [c]
        have HN := Lib.hid hn
        clear hn ht hx
        go_wp2_with (go_at_call 25; refine (refIn_any x 0 100000 true c _).mono ?_; rintro e w1 ⟨rfl, g1⟩)
        go_roundw
        case rel => exact Lib.hid ⟨k + 1, by omega, by go_num, gW.tr g1, HN.out⟩
        case measure => simp [intOf]; omega
      | false =>
        have E := Lib.hid (show d = false by
          rw [← HD.out]
          cases h : inB 0 100000 l with
          | false => rfl
          | true =>
            unfold inB at h
            rw [List.all_eq_true] at h
            rw [h x (List.mem_of_getElem? hx)] at c
            cases c)
        clear ht hx
        go_wp2_with (go_at_call 25; refine (refIn_any x 0 100000 false c _).mono ?_; rintro e w1 ⟨rfl, g1⟩)
        go_ret
        exact ⟨ret_bool E.out.symm, gW.tr g1⟩
    · obtain rfl : k = l.length := by omega
      rw [List.take_length] at ht
      have E := Lib.hid (show d = true by rw [← HD.out, ht])
      clear ht
      go_wp2
      go_ret
      exact ⟨ret_bool E.out.symm, gW⟩


set_option maxRecDepth 100000 in
set_option maxHeartbeats 1000000 in
theorem refPasses_any (te me lo ba : Int) (l : List Int) (hl : l.length ≤ 1000) (hB : ∀ x ∈ l, 0 ≤ x ∧ x ≤ 100000) (t0 : 0 ≤ te) (t1 : te ≤ 1000) (m0 : 0 ≤ me) (m1 : me ≤ 100000) (a : Option Addr) (cap : Nat) (w : World) (hr : IRow w a l) :
    Calls Try.prog 65 #[.agg #[.int .i64 te, .int .i64 me, .int .i64 lo, .int .i64 ba], .slice a l.length cap] w fun e w' => e = .returned (.bool (passB false te me lo ba (diag l))) ∧ Gr w w' := by
  have gg := Gr.al w (.cells #[.int .i64 te, .int .i64 me, .int .i64 lo, .int .i64 ba] 23)
  have hb := Box.new w [.int .i64 te, .int .i64 me, .int .i64 lo, .int .i64 ba] 23 w.heap.size rfl
  have HB := Lib.hid hb
  have GG := Lib.hid gg
  have HR := Lib.hid (hr.grow gg)
  have q0 : 0 ≤ te * me := Int.mul_nonneg t0 m0
  have q1 : te * me ≤ 1000 * 100000 := Int.mul_le_mul t1 m1 m0 (by omega)
  clear hb gg hr
  go_enter Try.func65, Try.ntmps65
  go_upto_region 2 with fail
  refine wp_abs (fun W => Gr (w.alloc (.cells #[.int .i64 te, .int .i64 me, .int .i64 lo, .int .i64 ba] 23)) W) (Below.refl _ _) ?_
  intro W hW
  go_wp2
  go_loopw [7, 5, 6] (fun t s b wr => Hid (∃ k : Nat, k ≤ l.length ∧ t = .int .i64 k ∧ Gr (w.alloc (.cells #[.int .i64 te, .int .i64 me, .int .i64 lo, .int .i64 ba] 23)) wr ∧ s = .int .i64 (sumS false (diag (l.take k))) ∧ b = .int .i64 (badS false lo (diag (l.take k))))) (fun t _ _ _ => l.length - (intOf t).toNat)
  case atStart => exact Lib.hid ⟨0, Nat.zero_le _, rfl, hW, rfl, rfl⟩
  case round =>
    obtain ⟨k, hk, rfl, gW, rfl, rfl⟩ := hrel.out
    clear hrel
    obtain ⟨x0, x1⟩ := sumS_bd false (diag (l.take k)) (diag_bd (fun x hx => hB x (List.mem_of_mem_take hx)))
    have x2 := badS_0 false lo (diag (l.take k))
    have x3 := badS_len false lo (diag (l.take k))
    have x4 : (diag (l.take k)).length = min k l.length := by simp [diag]
    obtain ⟨p0, p1, p2, p3⟩ := (HB.out.keep gW).c4'
    by_cases hlt : k < l.length
    · obtain ⟨x, hx⟩ : ∃ x, l[k]? = some x := ⟨l[k], by simp [hlt]⟩
      obtain ⟨y0, y1⟩ := hB x (List.mem_of_getElem? hx)
      obtain ⟨b1, o1, rfl, h1, cc⟩ := IRow.get (HR.out.grow gW) hx
      have hs : sumS false (diag (l.take (k + 1))) = sumS false (diag (l.take k)) + x := by
        rw [List.take_add_one, hx, Option.toList_some, diag_app, sumS_app]
        simp
      have hd : badS false lo (diag (l.take (k + 1))) = badS false lo (diag (l.take k)) + if x < lo then 1 else 0 := by
        rw [List.take_add_one, hx, Option.toList_some, diag_app, badS_app]
        simp
      rw [x4] at x1 x3
      have HS := Lib.hid hs
      have HD := Lib.hid hd
      generalize sumS false (diag (l.take k)) = S at *
      generalize badS false lo (diag (l.take k)) = B at *
      clear hs hd hx x4
      by_cases hlo : x < lo
      · go_upto_region 6 with fail
        go_quiet (fail)
        go_wp2
        go_roundw
        case rel => exact Lib.hid ⟨k + 1, by omega, by go_num, gW.drewN _, by rw [HS.out], by rw [HD.out, if_pos hlo]⟩
        case measure => simp [intOf]; omega
      · go_upto_region 6 with fail
        go_quiet (fail)
        go_wp2
        go_roundw
        case rel => exact Lib.hid ⟨k + 1, by omega, by go_num, gW.drewN _, by rw [HS.out], by rw [HD.out, if_neg hlo, Int.add_zero]⟩
        case measure => simp [intOf]; omega
    · obtain rfl : k = l.length := by omega
      rw [List.take_length] at *
      have E0 : passB false te me lo ba (diag l) = (decide (badS false lo (diag l) ≤ ba) && decide (te * me ≤ sumS false (diag l))) := rfl
      generalize sumS false (diag l) = S at *
      generalize badS false lo (diag l) = B at *
      by_cases hm : te * me ≤ S
      · have E := Lib.hid (E0.trans (show (decide (B ≤ ba) && decide (te * me ≤ S)) = decide (B ≤ ba) by simp [hm]))
        clear E0
        go_wp2
        go_ret
        exact ⟨ret_bool E.out.symm, GG.out.tr gW⟩
      · have E := Lib.hid (E0.trans (show (decide (B ≤ ba) && decide (te * me ≤ S)) = false by simp [hm]))
        have hm' : decide (te * me ≤ S) = false := by simpa using hm
        clear E0
        go_wp2
        go_ret
        exact ⟨ret_bool E.out.symm, GG.out.tr gW⟩

set_option maxRecDepth 100000 in
set_option maxHeartbeats 2000000 in
theorem refRule_any (te me lo ba off : Int) (l : List Int) (R : Int) (hR : ruleL te me lo ba off l = R) (a : Option Addr) (cap : Nat) (w : World) (hr : IRow w a l) :
    Calls Try.prog 21 #[.agg #[.int .i64 te, .int .i64 me, .int .i64 lo, .int .i64 ba], .slice a l.length cap, .int .i64 off] w fun e w' => e = .returned (.int .i64 R) ∧ Gr w w' := by
  have gg := Gr.al w (.cells #[.int .i64 te, .int .i64 me, .int .i64 lo, .int .i64 ba] 23)
  have hb := Box.new w [.int .i64 te, .int .i64 me, .int .i64 lo, .int .i64 ba] 23 w.heap.size rfl
  obtain ⟨q0, q1, q2, q3⟩ := hb.c4'
  have r1 := hr.grow gg
  have tok0 : True := trivial
  have tok1 : True := trivial
  have tok2 : True := trivial
  have tok3 : True := trivial
  have hok : ruleOk te me lo ba = (in1 1 20 te && in1 0 100000 me && in1 0 100000 lo && in1 0 te ba) := by simp [ruleOk, inB, Bool.and_assoc]
  have hof : inB 0 1000 [off] = in1 0 1000 off := by simp [inB]
  unfold ruleL at hR
  rw [hok, hof] at hR
  clear hok hof hr
  cases c0 : in1 1 20 te with
  | false =>
    obtain rfl : R = 2 := by rw [← hR]; simp [c0]
    clear hR
    go_enter Try.func21, Try.ntmps21
    go_wp2_with (first
      | (have _t := tok0; clear tok0 _t; go_at_call 25; refine (refIn_any te 1 20 _ c0 _).mono ?_; rintro e w1 ⟨rfl, hx⟩; replace gg := gg.tr hx; replace hb := hb.keep hx; replace r1 := r1.grow hx; clear hx q0 q1 q2 q3; obtain ⟨q0, q1, q2, q3⟩ := hb.c4'))
    go_ret
    exact ⟨rfl, gg⟩
  | true =>
    cases c1 : in1 0 100000 me with
    | false =>
      obtain rfl : R = 2 := by rw [← hR]; simp [c0, c1]
      clear hR
      go_enter Try.func21, Try.ntmps21
      go_wp2_with (first
        | (have _t := tok0; clear tok0 _t; go_at_call 25; refine (refIn_any te 1 20 _ c0 _).mono ?_; rintro e w1 ⟨rfl, hx⟩; replace gg := gg.tr hx; replace hb := hb.keep hx; replace r1 := r1.grow hx; clear hx q0 q1 q2 q3; obtain ⟨q0, q1, q2, q3⟩ := hb.c4')
        | (have _t := tok1; clear tok1 _t; go_at_call 25; refine (refIn_any me 0 100000 _ c1 _).mono ?_; rintro e w1 ⟨rfl, hx⟩; replace gg := gg.tr hx; replace hb := hb.keep hx; replace r1 := r1.grow hx; clear hx q0 q1 q2 q3; obtain ⟨q0, q1, q2, q3⟩ := hb.c4'))
      go_ret
      exact ⟨rfl, gg⟩
    | true =>
      cases c2 : in1 0 100000 lo with
      | false =>
        obtain rfl : R = 2 := by rw [← hR]; simp [c0, c1, c2]
        clear hR
        go_enter Try.func21, Try.ntmps21
        go_wp2_with (first
          | (have _t := tok0; clear tok0 _t; go_at_call 25; refine (refIn_any te 1 20 _ c0 _).mono ?_; rintro e w1 ⟨rfl, hx⟩; replace gg := gg.tr hx; replace hb := hb.keep hx; replace r1 := r1.grow hx; clear hx q0 q1 q2 q3; obtain ⟨q0, q1, q2, q3⟩ := hb.c4')
          | (have _t := tok1; clear tok1 _t; go_at_call 25; refine (refIn_any me 0 100000 _ c1 _).mono ?_; rintro e w1 ⟨rfl, hx⟩; replace gg := gg.tr hx; replace hb := hb.keep hx; replace r1 := r1.grow hx; clear hx q0 q1 q2 q3; obtain ⟨q0, q1, q2, q3⟩ := hb.c4')
          | (have _t := tok2; clear tok2 _t; go_at_call 25; refine (refIn_any lo 0 100000 _ c2 _).mono ?_; rintro e w1 ⟨rfl, hx⟩; replace gg := gg.tr hx; replace hb := hb.keep hx; replace r1 := r1.grow hx; clear hx q0 q1 q2 q3; obtain ⟨q0, q1, q2, q3⟩ := hb.c4'))
        go_ret
        exact ⟨rfl, gg⟩
      | true =>
        cases c3 : in1 0 te ba with
        | false =>
          obtain rfl : R = 2 := by rw [← hR]; simp [c0, c1, c2, c3]
          clear hR
          go_enter Try.func21, Try.ntmps21
          go_wp2_with (first
            | (have _t := tok0; clear tok0 _t; go_at_call 25; refine (refIn_any te 1 20 _ c0 _).mono ?_; rintro e w1 ⟨rfl, hx⟩; replace gg := gg.tr hx; replace hb := hb.keep hx; replace r1 := r1.grow hx; clear hx q0 q1 q2 q3; obtain ⟨q0, q1, q2, q3⟩ := hb.c4')
            | (have _t := tok1; clear tok1 _t; go_at_call 25; refine (refIn_any me 0 100000 _ c1 _).mono ?_; rintro e w1 ⟨rfl, hx⟩; replace gg := gg.tr hx; replace hb := hb.keep hx; replace r1 := r1.grow hx; clear hx q0 q1 q2 q3; obtain ⟨q0, q1, q2, q3⟩ := hb.c4')
            | (have _t := tok2; clear tok2 _t; go_at_call 25; refine (refIn_any lo 0 100000 _ c2 _).mono ?_; rintro e w1 ⟨rfl, hx⟩; replace gg := gg.tr hx; replace hb := hb.keep hx; replace r1 := r1.grow hx; clear hx q0 q1 q2 q3; obtain ⟨q0, q1, q2, q3⟩ := hb.c4')
            | (have _t := tok3; clear tok3 _t; go_at_call 25; refine (refIn_any ba 0 te _ c3 _).mono ?_; rintro e w1 ⟨rfl, hx⟩; replace gg := gg.tr hx; replace hb := hb.keep hx; replace r1 := r1.grow hx; clear hx q0 q1 q2 q3; obtain ⟨q0, q1, q2, q3⟩ := hb.c4'))
          go_ret
          exact ⟨rfl, gg⟩
        | true =>
          cases c4 : in1 0 1000 off with
          | false =>
            obtain rfl : R = 3 := by rw [← hR]; simp [c0, c1, c2, c3, c4]
            clear hR
            go_enter Try.func21, Try.ntmps21
            go_wp2_with (first
              | (have _t := tok0; clear tok0 _t; go_at_call 25; refine (refIn_any te 1 20 _ c0 _).mono ?_; rintro e w1 ⟨rfl, hx⟩; replace gg := gg.tr hx; replace hb := hb.keep hx; replace r1 := r1.grow hx; clear hx q0 q1 q2 q3; obtain ⟨q0, q1, q2, q3⟩ := hb.c4')
              | (have _t := tok1; clear tok1 _t; go_at_call 25; refine (refIn_any me 0 100000 _ c1 _).mono ?_; rintro e w1 ⟨rfl, hx⟩; replace gg := gg.tr hx; replace hb := hb.keep hx; replace r1 := r1.grow hx; clear hx q0 q1 q2 q3; obtain ⟨q0, q1, q2, q3⟩ := hb.c4')
              | (have _t := tok2; clear tok2 _t; go_at_call 25; refine (refIn_any lo 0 100000 _ c2 _).mono ?_; rintro e w1 ⟨rfl, hx⟩; replace gg := gg.tr hx; replace hb := hb.keep hx; replace r1 := r1.grow hx; clear hx q0 q1 q2 q3; obtain ⟨q0, q1, q2, q3⟩ := hb.c4')
              | (have _t := tok3; clear tok3 _t; go_at_call 25; refine (refIn_any ba 0 te _ c3 _).mono ?_; rintro e w1 ⟨rfl, hx⟩; replace gg := gg.tr hx; replace hb := hb.keep hx; replace r1 := r1.grow hx; clear hx q0 q1 q2 q3; obtain ⟨q0, q1, q2, q3⟩ := hb.c4')
              | (go_at_call 25; refine (refIn_any off 0 1000 _ c4 _).mono ?_; rintro e w1 ⟨rfl, hx⟩; replace gg := gg.tr hx; replace hb := hb.keep hx; replace r1 := r1.grow hx; clear hx q0 q1 q2 q3; obtain ⟨q0, q1, q2, q3⟩ := hb.c4'))
            go_ret
            exact ⟨rfl, gg⟩
          | true =>
            by_cases c5 : te < (l.length : Int)
            · have c5d : decide (te < (l.length : Int)) = true := by simpa using c5
              obtain rfl : R = 5 := by rw [← hR]; simp [c0, c1, c2, c3, c4, c5]
              clear hR
              go_enter Try.func21, Try.ntmps21
              go_wp2_with (first
                | (have _t := tok0; clear tok0 _t; go_at_call 25; refine (refIn_any te 1 20 _ c0 _).mono ?_; rintro e w1 ⟨rfl, hx⟩; replace gg := gg.tr hx; replace hb := hb.keep hx; replace r1 := r1.grow hx; clear hx q0 q1 q2 q3; obtain ⟨q0, q1, q2, q3⟩ := hb.c4')
                | (have _t := tok1; clear tok1 _t; go_at_call 25; refine (refIn_any me 0 100000 _ c1 _).mono ?_; rintro e w1 ⟨rfl, hx⟩; replace gg := gg.tr hx; replace hb := hb.keep hx; replace r1 := r1.grow hx; clear hx q0 q1 q2 q3; obtain ⟨q0, q1, q2, q3⟩ := hb.c4')
                | (have _t := tok2; clear tok2 _t; go_at_call 25; refine (refIn_any lo 0 100000 _ c2 _).mono ?_; rintro e w1 ⟨rfl, hx⟩; replace gg := gg.tr hx; replace hb := hb.keep hx; replace r1 := r1.grow hx; clear hx q0 q1 q2 q3; obtain ⟨q0, q1, q2, q3⟩ := hb.c4')
                | (have _t := tok3; clear tok3 _t; go_at_call 25; refine (refIn_any ba 0 te _ c3 _).mono ?_; rintro e w1 ⟨rfl, hx⟩; replace gg := gg.tr hx; replace hb := hb.keep hx; replace r1 := r1.grow hx; clear hx q0 q1 q2 q3; obtain ⟨q0, q1, q2, q3⟩ := hb.c4')
                | (go_at_call 25; refine (refIn_any off 0 1000 _ c4 _).mono ?_; rintro e w1 ⟨rfl, hx⟩; replace gg := gg.tr hx; replace hb := hb.keep hx; replace r1 := r1.grow hx; clear hx q0 q1 q2 q3; obtain ⟨q0, q1, q2, q3⟩ := hb.c4'))
              go_ret
              exact ⟨rfl, gg⟩
            · have c5d : decide (te < (l.length : Int)) = false := by simpa using c5
              cases c6 : inB 0 100000 l with
              | false =>
                obtain rfl : R = 4 := by rw [← hR]; simp [c0, c1, c2, c3, c4, c5, c6]
                clear hR
                go_enter Try.func21, Try.ntmps21
                go_wp2_with (first
                  | (have _t := tok0; clear tok0 _t; go_at_call 25; refine (refIn_any te 1 20 _ c0 _).mono ?_; rintro e w1 ⟨rfl, hx⟩; replace gg := gg.tr hx; replace hb := hb.keep hx; replace r1 := r1.grow hx; clear hx q0 q1 q2 q3; obtain ⟨q0, q1, q2, q3⟩ := hb.c4')
                  | (have _t := tok1; clear tok1 _t; go_at_call 25; refine (refIn_any me 0 100000 _ c1 _).mono ?_; rintro e w1 ⟨rfl, hx⟩; replace gg := gg.tr hx; replace hb := hb.keep hx; replace r1 := r1.grow hx; clear hx q0 q1 q2 q3; obtain ⟨q0, q1, q2, q3⟩ := hb.c4')
                  | (have _t := tok2; clear tok2 _t; go_at_call 25; refine (refIn_any lo 0 100000 _ c2 _).mono ?_; rintro e w1 ⟨rfl, hx⟩; replace gg := gg.tr hx; replace hb := hb.keep hx; replace r1 := r1.grow hx; clear hx q0 q1 q2 q3; obtain ⟨q0, q1, q2, q3⟩ := hb.c4')
                  | (have _t := tok3; clear tok3 _t; go_at_call 25; refine (refIn_any ba 0 te _ c3 _).mono ?_; rintro e w1 ⟨rfl, hx⟩; replace gg := gg.tr hx; replace hb := hb.keep hx; replace r1 := r1.grow hx; clear hx q0 q1 q2 q3; obtain ⟨q0, q1, q2, q3⟩ := hb.c4')
                  | (go_at_call 25; refine (refIn_any off 0 1000 _ c4 _).mono ?_; rintro e w1 ⟨rfl, hx⟩; replace gg := gg.tr hx; replace hb := hb.keep hx; replace r1 := r1.grow hx; clear hx q0 q1 q2 q3; obtain ⟨q0, q1, q2, q3⟩ := hb.c4')
                  | (go_at_call 26; refine (refReadings_any l _ c6 a cap _ r1).mono ?_; rintro e w2 ⟨rfl, hx⟩; replace gg := gg.tr hx))
                go_ret
                exact ⟨rfl, gg⟩
              | true =>
                obtain rfl : R = 0 := by rw [← hR]; simp [c0, c1, c2, c3, c4, c5, c6]
                clear hR
                go_enter Try.func21, Try.ntmps21
                go_wp2_with (first
                  | (have _t := tok0; clear tok0 _t; go_at_call 25; refine (refIn_any te 1 20 _ c0 _).mono ?_; rintro e w1 ⟨rfl, hx⟩; replace gg := gg.tr hx; replace hb := hb.keep hx; replace r1 := r1.grow hx; clear hx q0 q1 q2 q3; obtain ⟨q0, q1, q2, q3⟩ := hb.c4')
                  | (have _t := tok1; clear tok1 _t; go_at_call 25; refine (refIn_any me 0 100000 _ c1 _).mono ?_; rintro e w1 ⟨rfl, hx⟩; replace gg := gg.tr hx; replace hb := hb.keep hx; replace r1 := r1.grow hx; clear hx q0 q1 q2 q3; obtain ⟨q0, q1, q2, q3⟩ := hb.c4')
                  | (have _t := tok2; clear tok2 _t; go_at_call 25; refine (refIn_any lo 0 100000 _ c2 _).mono ?_; rintro e w1 ⟨rfl, hx⟩; replace gg := gg.tr hx; replace hb := hb.keep hx; replace r1 := r1.grow hx; clear hx q0 q1 q2 q3; obtain ⟨q0, q1, q2, q3⟩ := hb.c4')
                  | (have _t := tok3; clear tok3 _t; go_at_call 25; refine (refIn_any ba 0 te _ c3 _).mono ?_; rintro e w1 ⟨rfl, hx⟩; replace gg := gg.tr hx; replace hb := hb.keep hx; replace r1 := r1.grow hx; clear hx q0 q1 q2 q3; obtain ⟨q0, q1, q2, q3⟩ := hb.c4')
                  | (go_at_call 25; refine (refIn_any off 0 1000 _ c4 _).mono ?_; rintro e w1 ⟨rfl, hx⟩; replace gg := gg.tr hx; replace hb := hb.keep hx; replace r1 := r1.grow hx; clear hx q0 q1 q2 q3; obtain ⟨q0, q1, q2, q3⟩ := hb.c4')
                  | (go_at_call 26; refine (refReadings_any l _ c6 a cap _ r1).mono ?_; rintro e w2 ⟨rfl, hx⟩; replace gg := gg.tr hx))
                go_ret
                exact ⟨rfl, gg⟩

set_option maxRecDepth 100000 in
theorem decide_err (te me lo ba off : Int) (l : List Int) (R : Int) (hR : ruleL te me lo ba off l = R) (h0 : R ≠ 0) (a : Option Addr) (cap : Nat) (w : World) (hr : IRow w a l) :
    Calls Try.prog 19 #[.agg #[.int .i64 te, .int .i64 me, .int .i64 lo, .int .i64 ba], .slice a l.length cap, .int .i64 off] w fun e w' => e = .returned (.tuple #[.int .i64 0, .int .i64 R]) ∧ Gr w w' := by
  have hc : ∀ W, Gr w W → Calls Try.prog 18 #[.agg #[.int .i64 te, .int .i64 me, .int .i64 lo, .int .i64 ba], .slice a l.length cap, .int .i64 off] W fun e w' => e = .returned (.int .i64 R) ∧ Gr W w' := fun W g => by
    have := rule_any te me lo ba off l a cap W (hr.grow g)
    rw [hR] at this
    exact this
  have HC := Lib.hid hc
  have hb := Box.new w [.int .i64 te, .int .i64 me, .int .i64 lo, .int .i64 ba] 23 w.heap.size rfl
  have gg := Gr.al w (.cells #[.int .i64 te, .int .i64 me, .int .i64 lo, .int .i64 ba] 23)
  obtain ⟨q0, q1, q2, q3⟩ := hb.c4'
  have hn : (R != 0) = true := by simpa using h0
  clear hR hc h0
  go_enter Try.func19, Try.ntmps19
  go_wp2_with (go_at_call 18; refine (HC.out _ gg).mono ?_; rintro e w1 ⟨rfl, g1⟩)
  go_ret2
  exact ⟨rfl, gg.tr g1⟩

set_option maxRecDepth 100000 in
theorem need_err (te me lo ba off : Int) (l : List Int) (R : Int) (hR : ruleL te me lo ba off l = R) (h0 : R ≠ 0) (a : Option Addr) (cap : Nat) (w : World) (hr : IRow w a l) :
    Calls Try.prog 20 #[.agg #[.int .i64 te, .int .i64 me, .int .i64 lo, .int .i64 ba], .slice a l.length cap, .int .i64 off] w fun e w' => e = .returned (.tuple #[.int .i64 0, .int .i64 0, .int .i64 R]) ∧ Gr w w' := by
  have hc : ∀ W, Gr w W → Calls Try.prog 18 #[.agg #[.int .i64 te, .int .i64 me, .int .i64 lo, .int .i64 ba], .slice a l.length cap, .int .i64 off] W fun e w' => e = .returned (.int .i64 R) ∧ Gr W w' := fun W g => by
    have := rule_any te me lo ba off l a cap W (hr.grow g)
    rw [hR] at this
    exact this
  have HC := Lib.hid hc
  have hb := Box.new w [.int .i64 te, .int .i64 me, .int .i64 lo, .int .i64 ba] 23 w.heap.size rfl
  have gg := Gr.al w (.cells #[.int .i64 te, .int .i64 me, .int .i64 lo, .int .i64 ba] 23)
  obtain ⟨q0, q1, q2, q3⟩ := hb.c4'
  have hn : (R != 0) = true := by simpa using h0
  clear hR hc h0
  go_enter Try.func20, Try.ntmps20
  go_wp2_with (go_at_call 18; refine (HC.out _ gg).mono ?_; rintro e w1 ⟨rfl, g1⟩)
  exact bodyPost_ret (v := .tuple #[.int .i64 0, .int .i64 0, .int .i64 R]) (by simp [results, Try.results20, go_sem]) rfl ⟨rfl, gg.tr g1⟩

end Go.Proofs.Ytkfhmfidgdpeiaa

namespace Go.Proofs.Ytkfhmfidgdpeiaa
set_option linter.unusedVariables false
set_option linter.unusedSimpArgs false
open Go.RowKit

/-- What is said of a value stays while blocks of Z alone turn. -/
def StaysZ (Z : Nat → Prop) (F : World → Value → Prop) : Prop := ∀ v v' x, Kx Z v v' → F v x → F v' x

theorem StaysZ.eq (Z : Nat → Prop) (u : Value) : StaysZ Z (fun _ x => x = u) := fun _ _ _ _ h => h

theorem staysZ_nil {Z : Nat → Prop} : ∀ (i : Nat) (F : World → Value → Prop), ([] : List (World → Value → Prop))[i]? = some F → StaysZ Z F := fun i F h => by simp at h

theorem staysZ_cons {Z : Nat → Prop} {G : World → Value → Prop} {Fs : List (World → Value → Prop)} (h : StaysZ Z G) (hs : ∀ (i : Nat) (F : World → Value → Prop), Fs[i]? = some F → StaysZ Z F) : ∀ (i : Nat) (F : World → Value → Prop), (G :: Fs)[i]? = some F → StaysZ Z F
  | 0, F, e => by simp at e; subst e; exact h
  | i + 1, F, e => hs i F (by simpa using e)

theorem getD_hun {listed : Array Bool} {i : Nat} (h : listed.getD i true = false) : listed.getD i false = false ∧ (listed.setIfInBounds i true).getD i false = true := by
  by_cases hi : i < listed.size
  · simp [hi] at h ⊢
    exact h
  · simp [hi] at h

theorem wp_region_two {P : Program} {Q : Exit → Act → World → Prop} {id : Nat} {W : World} {l : List Oper} (Z : Nat → Prop) (n p q : Nat) (ds : List (Nat × Nat)) (fr : (Nat → Value) → Act) (x0 : Nat → Value) (Fs : List (World → Value → Prop)) (C : World → Prop) (S0 : World → Prop) (S1 : World → Value → Prop) (S2 : World → Value → Value → Prop) {a : Act} (ha : a = fr x0) (hm : P.follows .mixedOrders = true)
    (hB : (decide (n < l.toArray.size) && Region.sinkB .any l.toArray n && Region.chainB .any l.toArray n && minB .any l.toArray n && Region.seqB .any l.toArray (l.toArray.size - n) n (Array.replicate n true ++ Array.replicate (l.toArray.size - n) false)) = true)
    (hD : depB .any l.toArray ds = true) (hpq : (q, p) ∈ ds) (hne : p ≠ q) (hpn : p < n) (hqn : q < n)
    (hst : ∀ (i : Nat) (F : World → Value → Prop), Fs[i]? = some F → StaysZ Z F) (hC : ∀ v v', Kx Z v v' → C v → C v')
    (h0 : ∀ v v', Gr v v' → S0 v → S0 v') (h1 : ∀ v v' x, Gr v v' → S1 v x → S1 v' x) (h2 : ∀ v v' x y, Gr v v' → S2 v x y → S2 v' x y)
    (hC0 : C W.drew) (hS0 : S0 W.drew)
    (hstep : ∀ i, i < n → i ≠ p → i ≠ q → ∀ x v, C v → (∀ (j : Nat) (F : World → Value → Prop), (i, j) ∈ ds → j ≠ p → j ≠ q → Fs[j]? = some F → F v (x j)) → ∀ K : Act → World → Prop, (∀ u v', Gr v v' → (∀ F : World → Value → Prop, Fs[i]? = some F → F v' u) → K (fr (upd x i u)) v') → wpOp P l.toArray Q i K (fr x) v)
    (hp : ∀ x v, C v → S0 v → (∀ (j : Nat) (F : World → Value → Prop), (p, j) ∈ ds → j ≠ p → j ≠ q → Fs[j]? = some F → F v (x j)) → ∀ K : Act → World → Prop, (∀ u v', Kx Z v v' → S1 v' u → K (fr (upd x p u)) v') → wpOp P l.toArray Q p K (fr x) v)
    (hq : ∀ x v, C v → S1 v (x p) → (∀ (j : Nat) (F : World → Value → Prop), (q, j) ∈ ds → j ≠ p → j ≠ q → Fs[j]? = some F → F v (x j)) → ∀ K : Act → World → Prop, (∀ u v', Kx Z v v' → S2 v' (x p) u → K (fr (upd x q u)) v') → wpOp P l.toArray Q q K (fr x) v)
    (hend : ∀ x v, C v → S2 v (x p) (x q) → (∀ (j : Nat) (F : World → Value → Prop), j < n → j ≠ p → j ≠ q → Fs[j]? = some F → F v (x j)) → wpList P l.toArray Q (l.drop n) (fr x) v) : (Code.region id l.toArray true).wp P Q a W := by
  subst ha
  refine wp_region_inv' n ds (fun _ listed a v => ∃ x, a = fr x ∧ C v ∧ (∀ (j : Nat) (F : World → Value → Prop), j ≠ p → j ≠ q → Fs[j]? = some F → listed.getD j false = true → F v (x j)) ∧ (listed.getD q false = true → listed.getD p false = true ∧ S2 v (x p) (x q)) ∧ (listed.getD q false = false → listed.getD p false = true → S1 v (x p)) ∧ (listed.getD p false = false → S0 v)) hm hB hD ⟨x0, rfl, hC0, fun j F _ _ _ h => (by rw [getD_replicate_false] at h; cases h), fun h => (by rw [getD_replicate_false] at h; cases h), fun _ h => (by rw [getD_replicate_false] at h; cases h), fun _ => hS0⟩ ?_ ?_
  · rintro i hi listed a v hun hdep ⟨x, rfl, hc, hf, a2, a1, a0⟩
    have hdf : ∀ (j : Nat) (F : World → Value → Prop), (i, j) ∈ ds → j ≠ p → j ≠ q → Fs[j]? = some F → F v (x j) := fun j F hj e1 e2 hF => hf j F e1 e2 hF (hdep j hj)
    by_cases ep : i = p
    · subst ep
      have hpf := (getD_hun hun).1
      have hqf : listed.getD q false = false := by
        cases hb : listed.getD q false with
        | false => rfl
        | true =>
          have := (a2 hb).1
          rw [hpf] at this
          cases this
      refine hp x v hc (a0 hpf) hdf _ (fun u v' hg hu => ⟨upd x i u, rfl, hC v v' hg hc, fun j F e1 e2 hF hl => ?_, fun h => ?_, fun _ _ => ?_, fun h => ?_⟩)
      · rw [upd_ne x u e1]
        exact hst j F hF v v' _ hg (hf j F e1 e2 hF (by rwa [getD_set_ne false (fun e' => e1 e'.symm)] at hl))
      · rw [getD_set_ne false hne, hqf] at h
        cases h
      · rw [upd_at]
        exact hu
      · rw [(getD_hun hun).2] at h
        cases h
    · by_cases eq : i = q
      · subst eq
        have hpt := hdep p hpq
        have hqf := (getD_hun hun).1
        refine hq x v hc (a1 hqf hpt) hdf _ (fun u v' hg hu => ⟨upd x i u, rfl, hC v v' hg hc, fun j F e1 e2 hF hl => ?_, fun h => ⟨?_, ?_⟩, fun h => ?_, fun h => ?_⟩)
        · rw [upd_ne x u e2]
          exact hst j F hF v v' _ hg (hf j F e1 e2 hF (by rwa [getD_set_ne false (fun e' => e2 e'.symm)] at hl))
        · rw [getD_set_ne false (fun e => hne e.symm)]
          exact hpt
        · rw [upd_at, upd_ne x u hne]
          exact hu
        · rw [(getD_hun hun).2] at h
          cases h
        · rw [getD_set_ne false (fun e => hne e.symm), hpt] at h
          cases h
      · refine hstep i hi ep eq x v hc hdf _ (fun u v' hg hu => ⟨upd x i u, rfl, hC v v' (Kx.gr hg) hc, fun j F e1 e2 hF hl => ?_, fun h => ?_, fun h h' => ?_, fun h => ?_⟩)
        · by_cases e : j = i
          · subst e
            rw [upd_at]
            exact hu F hF
          · rw [upd_ne x u e]
            exact hst j F hF v v' _ (Kx.gr hg) (hf j F e1 e2 hF (by rwa [getD_set_ne false (fun e' => e e'.symm)] at hl))
        · rw [getD_set_ne false eq] at h
          rw [getD_set_ne false ep, upd_ne x u (fun e => ep e.symm), upd_ne x u (fun e => eq e.symm)]
          exact ⟨(a2 h).1, h2 v v' _ _ hg (a2 h).2⟩
        · rw [getD_set_ne false eq] at h
          rw [getD_set_ne false ep] at h'
          rw [upd_ne x u (fun e => ep e.symm)]
          exact h1 v v' _ hg (a1 h h')
        · rw [getD_set_ne false ep] at h
          exact h0 v v' hg (a0 h)
  · rintro listed a v hs hall ⟨x, rfl, hc, hf, a2, a1, a0⟩
    have hl : ∀ j, j < n → listed.getD j false = true := fun j hj => by
      have e1 := hall j hj
      have hl : j < listed.size := by omega
      simp [hl] at e1 ⊢
      exact e1
    exact hend x v hc (a2 (hl q hqn)).2 (fun j F hj e1 e2 hF => hf j F e1 e2 hF (hl j hj))

end Go.Proofs.Ytkfhmfidgdpeiaa

namespace Go.Proofs.Ytkfhmfidgdpeiaa
set_option linter.unusedVariables false
set_option linter.unusedSimpArgs false
open Go.RowKit

set_option maxRecDepth 100000 in
theorem refTruth_any (r off : Int) (r0 : 0 ≤ r) (r1 : r ≤ 100000) (o0 : 0 ≤ off) (o1 : off ≤ 1000) (w : World) :
    Calls Try.prog 64 #[.int .i64 r, .int .i64 off] w fun e w' => e = .returned (.agg #[.int .i64 (max 0 (r - off)), .int .i64 (min 100000 (r + off))]) ∧ Gr w w' := by
  have w0 : IntKind.i64.wrap (r - off) = r - off := IntWalk.i64_in _ (by omega)
  have w1 : IntKind.i64.wrap (r + off) = r + off := IntWalk.i64_in _ (by omega)
  have oU := Own.new w [.int .i64 0, .int .i64 0] 45 w.heap.size rfl
  obtain ⟨u0, u1⟩ := oU.1.c2
  have z0 := oU.2 0
  have z1 := oU.2 1
  go_enter Try.func64, Try.ntmps64
  go_wp2
  obtain ⟨y0, y1⟩ := (Box.new w [.int .i64 (max 0 (r - off)), .int .i64 (min 100000 (r + off))] 45 w.heap.size rfl).c2
  exact bodyPost_ret (v := .agg #[.int .i64 (max 0 (r - off)), .int .i64 (min 100000 (r + off))]) (by simp [results, Try.results64, go_sem, y0, y1]) rfl ⟨rfl, Gr.al _ _⟩

/-- One end of the truths of the first so many tests. -/
def endsL (hi : Bool) (off : Int) (l : List Int) (k : Nat) : List Int := (List.range k).map (fun i => if hi then (truthAt off l i).2 else (truthAt off l i).1)

theorem endsL_succ (hi : Bool) (off : Int) (l : List Int) (k : Nat) : endsL hi off l (k + 1) = endsL hi off l k ++ [if hi then (truthAt off l k).2 else (truthAt off l k).1] := by simp [endsL, List.range_succ]

theorem endsL_len (hi : Bool) (off : Int) (l : List Int) (k : Nat) : (endsL hi off l k).length = k := by simp [endsL]

theorem ends_sum (hi : Bool) (off : Int) (l : List Int) (low : Int) : ∀ L : List Nat, sumS false (diag (L.map (fun i => if hi then (truthAt off l i).2 else (truthAt off l i).1))) = sumS hi (L.map (truthAt off l)) ∧ badS false low (diag (L.map (fun i => if hi then (truthAt off l i).2 else (truthAt off l i).1))) = badS hi low (L.map (truthAt off l))
  | [] => by simp [diag, sumS, badS]
  | x :: L => by
    obtain ⟨a, b⟩ := ends_sum hi off l low L
    simp only [diag, List.map_cons, sumS, badS] at a b ⊢
    rw [a, b]
    exact ⟨rfl, rfl⟩

theorem ends_pass (hi : Bool) (n : Nat) (me lo ba off : Int) (l : List Int) : passB false (n : Int) me lo ba (diag (endsL hi off l n)) = passB hi (n : Int) me lo ba (truthsL n off l) := by
  obtain ⟨a, b⟩ := ends_sum hi off l lo (List.range n)
  unfold passB endsL truthsL
  rw [a, b]

theorem endsL_bd {hi : Bool} {off : Int} {l : List Int} {k : Nat} (o0 : 0 ≤ off) (o1 : off ≤ 1000) (hB : ∀ r ∈ l, 0 ≤ r ∧ r ≤ 100000) : ∀ x ∈ endsL hi off l k, 0 ≤ x ∧ x ≤ 100000 := by
  intro x hx
  simp only [endsL, List.mem_map] at hx
  obtain ⟨i, _, rfl⟩ := hx
  obtain ⟨a, b, c, d⟩ := truthAt_bd o0 o1 hB i
  cases hi <;> simp <;> omega

theorem Box.kx {Z : Nat → Prop} {w w' : World} {b : Nat} {vs : List Value} (h : Box w b vs) (k : Kx Z w w') (hz : ¬ Z b) : Box w' b vs :=
  ⟨Nat.lt_of_lt_of_le h.1 k.size, fun i v hv => (World.cell?_of_block (w := w) (a := ⟨b, i, none⟩) (k.block b h.1 hz)).trans (h.2 i v hv)⟩

end Go.Proofs.Ytkfhmfidgdpeiaa

namespace Go.Proofs.Ytkfhmfidgdpeiaa
set_option linter.unusedVariables false
set_option linter.unusedSimpArgs false
open Go.RowKit

set_option maxRecDepth 100000 in
set_option maxHeartbeats 8000000 in
theorem refDecide_any (n : Nat) (me lo ba off : Int) (l : List Int) (n1 : 1 ≤ n) (n2 : n ≤ 20) (m0 : 0 ≤ me) (m1 : me ≤ 100000) (o0 : 0 ≤ off) (o1 : off ≤ 1000) (hl : l.length ≤ 100) (hB : ∀ r ∈ l, 0 ≤ r ∧ r ≤ 100000) (a : Option Addr) (cap : Nat) (w : World) (hr : IRow w a l) :
    Calls Try.prog 23 #[.agg #[.int .i64 (n : Int), .int .i64 me, .int .i64 lo, .int .i64 ba], .slice a l.length cap, .int .i64 off] w fun e w' => e = .returned (.int .i64 (stateL (n : Int) me lo ba (truthsL n off l))) ∧ Gr w w' := by
  have gg := Gr.al w (.cells #[.int .i64 (n : Int), .int .i64 me, .int .i64 lo, .int .i64 ba] 23)
  have hb := Box.new w [.int .i64 (n : Int), .int .i64 me, .int .i64 lo, .int .i64 ba] 23 w.heap.size rfl
  have HB := Lib.hid hB
  clear hB
  go_enter Try.func23, Try.ntmps23
  go_upto_region 1 with fail
  refine wp_abs (fun U => Gr w U ∧ Box U w.heap.size [.int .i64 (n : Int), .int .i64 me, .int .i64 lo, .int .i64 ba]) ⟨gg, hb⟩ ?_
  clear gg hb
  rintro U ⟨gg, hb⟩
  go_upto_region 2 with fail
  have oA := owns_keep (owns_empty U 3 1) (Gr.al _ (.cells #[] 3))
  have oR := owns_base (owns_empty (U.alloc (.cells #[] 3)) 3 1) (show U.heap.size ≤ (U.alloc (.cells #[] 3)).heap.size by simp)
  have gU := (Gr.al U (.cells #[] 3)).tr (Gr.al _ (.cells #[] 3))
  have hap0 : Apart (.slice (some ⟨U.heap.size, 0, none⟩) 0 0) (.slice (some ⟨(U.alloc (.cells #[] 3)).heap.size, 0, none⟩) 0 0) := Apart.lit (by simp)
  rw [show (U.alloc (.cells #[] 3)).heap.size = U.heap.size + 1 by simp] at oR hap0
  obtain ⟨B0, hB0⟩ : ∃ B0, B0 = U.heap.size := ⟨_, rfl⟩
  have hB1 : U.heap.size ≤ B0 ∧ B0 ≤ U.heap.size := by omega
  rw [← hB0] at oA oR hap0 ⊢
  clear hB0
  obtain ⟨i0, hi, hz0, hz1, hz2⟩ := info_parts infoInt
  refine wp_abs (fun V => Gr U V ∧ V.ownsRow B0 3 1 (.slice (some ⟨B0, 0, none⟩) 0 0) 0 [] ∧ V.ownsRow B0 3 1 (.slice (some ⟨B0 + 1, 0, none⟩) 0 0) 0 []) ⟨gU, oA, oR⟩ ?_
  clear gU oA oR
  rintro V ⟨gU, oA, oR⟩
  refine (show (∀ s : Nat → Value, Code.wp Try.prog _ _ ⟨#[s 0, .slice a l.length cap, .int .i64 off, .pointer (some ⟨w.heap.size, 0, none⟩), s 4, s 5, s 6, .slice (some ⟨B0, 0, none⟩) 0 0, .slice (some ⟨B0 + 1, 0, none⟩) 0 0, undef, undef, s 11, s 12, undef, undef, undef, undef, undef, undef, undef, undef, undef, undef, undef, undef, undef, undef, undef, undef, undef, undef, undef, undef, undef, undef, undef, undef, undef, undef, undef, undef, undef, undef, undef, undef, undef, undef], []⟩ _) → _ from fun h => h ((fun l : List Value => fun i => l.getD i undef) [_, undef, undef, undef, _, _, _, undef, undef, undef, undef, _, _])) ?_
  intro s
  dsimp only
  go_wp2
  go_loopw [9, 7, 8] (fun i s t wr => Hid (∃ k : Nat, k ≤ n ∧ i = .int .i64 k ∧ Gr U wr ∧ wr.ownsRow B0 3 1 s k ((endsL false off l k).flatMap encI) ∧ wr.ownsRow B0 3 1 t k ((endsL true off l k).flatMap encI) ∧ Apart s t)) (fun i _ _ _ => n - (intOf i).toNat)
  case atStart => exact Lib.hid ⟨0, Nat.zero_le _, rfl, gU, oA, oR, hap0⟩
  case round =>
    clear gU oA oR hap0
    obtain ⟨k, hk, rfl, gW, oA, oR, hap⟩ := hrel.out
    clear hrel
    by_cases hlt : k < n
    · obtain ⟨lw, hw, htr⟩ : ∃ a b, truthAt off l k = (a, b) := ⟨_, _, rfl⟩
      have HA := Lib.hid (show endsL false off l (k + 1) = endsL false off l k ++ [lw] by rw [endsL_succ, htr]; rfl)
      have HH := Lib.hid (show endsL true off l (k + 1) = endsL true off l k ++ [hw] by rw [endsL_succ, htr]; rfl)
      obtain ⟨q0, q1, q2, q3⟩ := (hb.keep gW).c4'
      by_cases hx : k < l.length
      · obtain ⟨x, hxx⟩ : ∃ x, l[k]? = some x := ⟨l[k], by simp [hx]⟩
        obtain ⟨x0, x1⟩ := HB.out x (List.mem_of_getElem? hxx)
        obtain ⟨e1, e2⟩ : max 0 (x - off) = lw ∧ min 100000 (x + off) = hw := by
          have : (max 0 (x - off), min 100000 (x + off)) = (lw, hw) := by rw [← htr]; unfold truthAt; rw [hxx]
          injection this with e1 e2
          exact ⟨e1, e2⟩
        have HTR := Lib.hid (fun W => (show Calls Try.prog 64 #[.int .i64 x, .int .i64 off] W fun e w' => e = .returned (.agg #[.int .i64 lw, .int .i64 hw]) ∧ Gr W w' by rw [← e1, ← e2]; exact refTruth_any x off x0 x1 o0 o1 W))
        obtain ⟨b1, of1, rfl, _, cx⟩ := IRow.get (hr.grow (gg.tr gW)) hxx
        have cx2 := (Gr.al wr (.cells #[.int .i64 0, .int .i64 100000] 45)).keep cx
        have oX0 := Own.new wr [.int .i64 0, .int .i64 100000] 45 wr.heap.size rfl
        clear hxx htr e1 e2
        go_upto_region 8 with (go_at_call 64; refine (HTR.out _).mono ?_; rintro e w2 ⟨rfl, g2⟩; have oX1 := oX0.keep g2; (obtain ⟨t0, t1⟩ := oX1.1.c2); have f0 := oX1.2 0; have f1 := oX1.2 1)
        have gX := (((Gr.al wr (.cells #[.int .i64 0, .int .i64 100000] 45)).tr g2).setCell (p := ⟨wr.heap.size, 0, none⟩) (Nat.le_refl wr.heap.size) (.int .i64 lw)).setCell (p := ⟨wr.heap.size, 1, none⟩) (Nat.le_refl wr.heap.size) (.int .i64 hw)
        have oX := ((oX1.set (i := 0) (v := .int .i64 lw) (by simp)).set (i := 1) (v := .int .i64 hw) (by simp)).1
        clear oX0 oX1 t0 t1 f0 f1 cx cx2 HTR
        obtain ⟨D, hD⟩ : ∃ D, D = wr.heap.size := ⟨_, rfl⟩
        rw [← hD] at oX ⊢
        have gX : Gr wr ((w2.setCell ⟨D, 0, none⟩ (.int .i64 lw)).setCell ⟨D, 1, none⟩ (.int .i64 hw)) := by subst hD; exact gX
        clear q0 q1 q2 q3
        have k1 : k + 1 ≤ maxLen := by unfold maxLen; omega
        have k2 : (k + 1) * 8 ≤ 140737488355328 := by omega
        have hsD : ∀ b, u7.ownBlock = some b → B0 ≤ b ∧ b < D := fun b e => by have := oA.lt b e; omega
        have htD : ∀ b, u8.ownBlock = some b → B0 ≤ b ∧ b < D := fun b e => by have := oR.lt b e; omega
        have hD1 : wr.heap.size ≤ D ∧ D ≤ wr.heap.size := by omega
        clear hD
        refine wp_abs (fun X => Gr wr X ∧ Box X D [.int .i64 lw, .int .i64 hw]) ⟨gX, oX⟩ ?_
        clear gX oX
        rintro X ⟨gX, hbx⟩
        have oA := owns_keep oA gX
        have oR := owns_keep oR gX
        have gX := gW.tr gX
        refine (show (∀ y : Nat → Value, Code.wp Try.prog _ _ ⟨#[s 0, .slice (some ⟨b1, of1, none⟩) l.length cap, .int .i64 off, .pointer (some ⟨w.heap.size, 0, none⟩), s 4, s 5, s 6, u7, u8, .int .i64 (k : Int), .pointer (some ⟨D, 0, none⟩), s 11, s 12, y 13, y 14, y 15, y 16, y 17, y 18, y 19, y 20, y 21, y 22, y 23, y 24, y 25, y 26, y 27, y 28, y 29, y 30, y 31, y 32, y 33, y 34, y 35, y 36, y 37, y 38, y 39, undef, undef, undef, undef, undef, undef, undef], []⟩ _) → _ from fun h => h ((fun l : List Value => fun i => l.getD i undef) [undef, undef, undef, undef, undef, undef, undef, undef, undef, undef, undef, undef, undef, _, _, _, _, _, _, _, _, _, _, _, _, _, _, _, _, _, _, _, _, _, _, _, _, _, _, _])) ?_
        intro y
        dsimp only
        refine wp_region_two (fun b => b < D) 10 4 9 [(2, 1), (3, 2), (4, 0), (4, 3), (7, 6), (8, 7), (9, 5), (9, 8), (9, 4)] (fun x => ⟨#[s 0, .slice (some ⟨b1, of1, none⟩) l.length cap, .int .i64 off, .pointer (some ⟨w.heap.size, 0, none⟩), s 4, s 5, s 6, u7, u8, .int .i64 (k : Int), .pointer (some ⟨D, 0, none⟩), s 11, s 12, y 13, y 14, y 15, y 16, y 17, y 18, y 19, y 20, y 21, y 22, y 23, y 24, y 25, y 26, y 27, y 28, y 29, x 0, x 1, x 2, x 3, x 4, x 5, x 6, x 7, x 8, x 9, undef, undef, undef, undef, undef, undef, undef], []⟩) (fun i => [y 30, y 31, y 32, y 33, y 34, y 35, y 36, y 37, y 38, y 39].getD i undef) [fun _ x => x = u7, fun _ x => x = .pointer (some ⟨D, 0, none⟩), fun _ x => x = .int .i64 lw, fun v x => ∃ b, x = .slice (some ⟨b, 0, none⟩) 1 1 ∧ D ≤ b ∧ Box v b [.int .i64 lw], fun _ _ => True, fun _ x => x = u8, fun _ x => x = .pointer (some ⟨D, 1, none⟩), fun _ x => x = .int .i64 hw, fun v x => ∃ b, x = .slice (some ⟨b, 0, none⟩) 1 1 ∧ D ≤ b ∧ Box v b [.int .i64 hw], fun _ _ => True] (fun v => Box v D [.int .i64 lw, .int .i64 hw]) (fun v => Gr U v ∧ v.ownsRow B0 3 1 u7 k ((endsL false off l k).flatMap encI) ∧ v.ownsRow B0 3 1 u8 k ((endsL true off l k).flatMap encI)) (fun v x => Gr U v ∧ v.ownsRow B0 3 1 x (k + 1) ((endsL false off l (k + 1)).flatMap encI) ∧ v.ownsRow B0 3 1 u8 k ((endsL true off l k).flatMap encI) ∧ Apart x u8) (fun v x y => Gr U v ∧ v.ownsRow B0 3 1 x (k + 1) ((endsL false off l (k + 1)).flatMap encI) ∧ v.ownsRow B0 3 1 y (k + 1) ((endsL true off l (k + 1)).flatMap encI) ∧ Apart x y) (by rfl) (by kernel_rfl) (by kernel_rfl) (by kernel_rfl) (by simp) (by omega) (by omega) (by omega) (staysZ_cons (StaysZ.eq _ _) (staysZ_cons (StaysZ.eq _ _) (staysZ_cons (StaysZ.eq _ _) (staysZ_cons (show StaysZ (fun b => b < D) (fun v x => ∃ b, x = .slice (some ⟨b, 0, none⟩) 1 1 ∧ D ≤ b ∧ Box v b [.int .i64 lw]) from fun v v' x g ⟨b, h, h1, h2⟩ => ⟨b, h, h1, h2.kx g (by omega)⟩) (staysZ_cons (fun _ _ _ _ _ => trivial) (staysZ_cons (StaysZ.eq _ _) (staysZ_cons (StaysZ.eq _ _) (staysZ_cons (StaysZ.eq _ _) (staysZ_cons (show StaysZ (fun b => b < D) (fun v x => ∃ b, x = .slice (some ⟨b, 0, none⟩) 1 1 ∧ D ≤ b ∧ Box v b [.int .i64 hw]) from fun v v' x g ⟨b, h, h1, h2⟩ => ⟨b, h, h1, h2.kx g (by omega)⟩) (staysZ_cons (fun _ _ _ _ _ => trivial) staysZ_nil))))))))))
          (fun v v' g h => h.kx g (by omega)) (fun v v' g h => ⟨h.1.tr g, owns_keep h.2.1 g, owns_keep h.2.2 g⟩) (fun v v' x g h => ⟨h.1.tr g, owns_keep h.2.1 g, owns_keep h.2.2.1 g, h.2.2.2⟩) (fun v v' x y g h => ⟨h.1.tr g, owns_keep h.2.1 g, owns_keep h.2.2.1 g, h.2.2.2⟩) (hbx.keep (Gr.dr _)) ⟨gX.tr (Gr.dr _), owns_keep oA (Gr.dr _), owns_keep oR (Gr.dr _)⟩ ?stepA ?ppA ?qqA ?finA
        case stepA =>
          rintro i hi np nq x v hc hd K hK
          have hi8 : i = 0 ∨ i = 1 ∨ i = 2 ∨ i = 3 ∨ i = 5 ∨ i = 6 ∨ i = 7 ∨ i = 8 := by omega
          rcases hi8 with rfl | rfl | rfl | rfl | rfl | rfl | rfl | rfl
          · show wpOp Try.prog _ _ 0 K (⟨#[_, _, _, _, _, _, _, _, _, _, _, _, _, _, _, _, _, _, _, _, _, _, _, _, _, _, _, _, _, _, x 0, x 1, x 2, x 3, x 4, x 5, x 6, x 7, x 8, x 9, _, _, _, _, _, _, _], []⟩ : Act) v
            refine wpOp_step rfl (fun K' hK' => ?_)
            go_simp
            exact hK' _ _ (hK _ _ (Below.refl _ _) (at_of rfl (rfl)))
          · show wpOp Try.prog _ _ 1 K (⟨#[_, _, _, _, _, _, _, _, _, _, _, _, _, _, _, _, _, _, _, _, _, _, _, _, _, _, _, _, _, _, x 0, x 1, x 2, x 3, x 4, x 5, x 6, x 7, x 8, x 9, _, _, _, _, _, _, _], []⟩ : Act) v
            refine wpOp_step rfl (fun K' hK' => ?_)
            go_simp
            exact hK' _ _ (hK _ _ (Below.refl _ _) (at_of rfl (rfl)))
          · obtain ⟨x, rfl⟩ := upd_of (show x 1 = .pointer (some ⟨D, 0, none⟩) from hd 1 _ (by simp) (by decide) (by decide) rfl)
            show wpOp Try.prog _ _ 2 K (⟨#[_, _, _, _, _, _, _, _, _, _, _, _, _, _, _, _, _, _, _, _, _, _, _, _, _, _, _, _, _, _, x 0, .pointer (some ⟨D, 0, none⟩), x 2, x 3, x 4, x 5, x 6, x 7, x 8, x 9, _, _, _, _, _, _, _], []⟩ : Act) v
            have q := hc.2 0 _ rfl
            refine wpOp_step rfl (fun K' hK' => ?_)
            go_simp
            exact hK' _ _ (hK _ _ (Below.refl _ _) (at_of rfl (rfl)))
          · obtain ⟨x, rfl⟩ := upd_of (show x 2 = .int .i64 lw from hd 2 _ (by simp) (by decide) (by decide) rfl)
            show wpOp Try.prog _ _ 3 K (⟨#[_, _, _, _, _, _, _, _, _, _, _, _, _, _, _, _, _, _, _, _, _, _, _, _, _, _, _, _, _, _, x 0, x 1, .int .i64 lw, x 3, x 4, x 5, x 6, x 7, x 8, x 9, _, _, _, _, _, _, _], []⟩ : Act) v
            refine wpOp_step rfl (fun K' hK' => ?_)
            go_simp
            have gA := Gr.al v (.cells (List.toArray [.int .i64 lw]) 3)
            exact hK' _ _ (hK _ _ gA (at_of rfl ⟨v.heap.size, rfl, Nat.le_of_lt hc.1, Box.new v [.int .i64 lw] 3 v.heap.size rfl⟩))
          · show wpOp Try.prog _ _ 5 K (⟨#[_, _, _, _, _, _, _, _, _, _, _, _, _, _, _, _, _, _, _, _, _, _, _, _, _, _, _, _, _, _, x 0, x 1, x 2, x 3, x 4, x 5, x 6, x 7, x 8, x 9, _, _, _, _, _, _, _], []⟩ : Act) v
            refine wpOp_step rfl (fun K' hK' => ?_)
            go_simp
            exact hK' _ _ (hK _ _ (Below.refl _ _) (at_of rfl (rfl)))
          · show wpOp Try.prog _ _ 6 K (⟨#[_, _, _, _, _, _, _, _, _, _, _, _, _, _, _, _, _, _, _, _, _, _, _, _, _, _, _, _, _, _, x 0, x 1, x 2, x 3, x 4, x 5, x 6, x 7, x 8, x 9, _, _, _, _, _, _, _], []⟩ : Act) v
            refine wpOp_step rfl (fun K' hK' => ?_)
            go_simp
            exact hK' _ _ (hK _ _ (Below.refl _ _) (at_of rfl (rfl)))
          · obtain ⟨x, rfl⟩ := upd_of (show x 6 = .pointer (some ⟨D, 1, none⟩) from hd 6 _ (by simp) (by decide) (by decide) rfl)
            show wpOp Try.prog _ _ 7 K (⟨#[_, _, _, _, _, _, _, _, _, _, _, _, _, _, _, _, _, _, _, _, _, _, _, _, _, _, _, _, _, _, x 0, x 1, x 2, x 3, x 4, x 5, .pointer (some ⟨D, 1, none⟩), x 7, x 8, x 9, _, _, _, _, _, _, _], []⟩ : Act) v
            have q := hc.2 1 _ rfl
            refine wpOp_step rfl (fun K' hK' => ?_)
            go_simp
            exact hK' _ _ (hK _ _ (Below.refl _ _) (at_of rfl (rfl)))
          · obtain ⟨x, rfl⟩ := upd_of (show x 7 = .int .i64 hw from hd 7 _ (by simp) (by decide) (by decide) rfl)
            show wpOp Try.prog _ _ 8 K (⟨#[_, _, _, _, _, _, _, _, _, _, _, _, _, _, _, _, _, _, _, _, _, _, _, _, _, _, _, _, _, _, x 0, x 1, x 2, x 3, x 4, x 5, x 6, .int .i64 hw, x 8, x 9, _, _, _, _, _, _, _], []⟩ : Act) v
            refine wpOp_step rfl (fun K' hK' => ?_)
            go_simp
            have gA := Gr.al v (.cells (List.toArray [.int .i64 hw]) 3)
            exact hK' _ _ (hK _ _ gA (at_of rfl ⟨v.heap.size, rfl, Nat.le_of_lt hc.1, Box.new v [.int .i64 hw] 3 v.heap.size rfl⟩))
        case ppA =>
          rintro x v hc ⟨gv, o1, o2⟩ hd K hK
          obtain ⟨x, rfl⟩ := upd_of (show x 0 = u7 from hd 0 _ (by simp) (by decide) (by decide) rfl)
          obtain ⟨b3, e3, hb3, hx3⟩ := hd 3 _ (by simp) (by decide) (by decide) rfl
          obtain ⟨x, rfl⟩ := upd_of (show x 3 = .slice (some ⟨b3, 0, none⟩) 1 1 from e3)
          show wpOp Try.prog _ _ 4 K (⟨#[_, _, _, _, _, _, _, _, _, _, _, _, _, _, _, _, _, _, _, _, _, _, _, _, _, _, _, _, _, _, u7, x 1, x 2, .slice (some ⟨b3, 0, none⟩) 1 1, x 4, x 5, x 6, x 7, x 8, x 9, _, _, _, _, _, _, _], []⟩ : Act) v
          refine wpOp_step rfl (fun K' hK' => ?_)
          refine step_append_lies _ (by rfl) _ _ 24 (by rfl) B0 3 i0 (.int .i64 0) 1 8 Try.underlying24 hi hz0 hz1 hz2 rfl (by decide) u7 k _ (by rfl) o1 ⟨b3, 0, none⟩ 1 1 ([lw].map (fun n => Value.int .i64 n)) (by rfl) (by rfl) (fun j u hu => by have := hx3.2 j u hu; unfold Addr.add; split <;> simp_all) (ints_one _) (by omega) k1 k2 ?_ _ rfl ?_
          · have := gv.size
            omega
          intro g cp w4 o4 hg4 ha4 hl4
          have hkx : Kx (fun b => b < D) v w4 := Kx.grown hg4 (fun r e => .inl (hsD r e).2)
          have gY := gv.grown' o1 (by omega) hg4
          have hap4 : Apart (.slice (some ⟨g, 0, none⟩) (k + 1) cp) u8 := (Apart.after hap.symm ha4 (fun b e => (o2.lt b e).2)).symm
          exact hK' _ _ (hK _ _ hkx ⟨gY, (by rw [HA.out, flat_snoc]; exact o4), owns_apart o2 hg4 hap.symm, hap4⟩)
        case qqA =>
          rintro x v hc ⟨gv, o1, o2, hap1⟩ hd K hK
          obtain ⟨r1, hr1⟩ : ∃ r, x 4 = r := ⟨_, rfl⟩
          rw [hr1] at o1 hap1 hK
          obtain ⟨x, rfl⟩ := upd_of hr1
          obtain ⟨x, rfl⟩ := upd_of (show x 5 = u8 from hd 5 _ (by simp) (by decide) (by decide) rfl)
          obtain ⟨b8, e8, hb8, hx8⟩ := hd 8 _ (by simp) (by decide) (by decide) rfl
          obtain ⟨x, rfl⟩ := upd_of (show x 8 = .slice (some ⟨b8, 0, none⟩) 1 1 from e8)
          show wpOp Try.prog _ _ 9 K (⟨#[_, _, _, _, _, _, _, _, _, _, _, _, _, _, _, _, _, _, _, _, _, _, _, _, _, _, _, _, _, _, x 0, x 1, x 2, x 3, r1, u8, x 6, x 7, .slice (some ⟨b8, 0, none⟩) 1 1, x 9, _, _, _, _, _, _, _], []⟩ : Act) v
          refine wpOp_step rfl (fun K' hK' => ?_)
          refine step_append_lies _ (by rfl) _ _ 24 (by rfl) B0 3 i0 (.int .i64 0) 1 8 Try.underlying24 hi hz0 hz1 hz2 rfl (by decide) u8 k _ (by rfl) o2 ⟨b8, 0, none⟩ 1 1 ([hw].map (fun n => Value.int .i64 n)) (by rfl) (by rfl) (fun j u hu => by have := hx8.2 j u hu; unfold Addr.add; split <;> simp_all) (ints_one _) (by omega) k1 k2 ?_ _ rfl ?_
          · have := gv.size
            omega
          intro g cp w4 o4 hg4 ha4 hl4
          have hkx : Kx (fun b => b < D) v w4 := Kx.grown hg4 (fun r e => .inl (htD r e).2)
          have gY := gv.grown' o2 (by omega) hg4
          have hap4 : Apart r1 (.slice (some ⟨g, 0, none⟩) (k + 1) cp) := Apart.after hap1 ha4 (fun b e => (o1.lt b e).2)
          exact hK' _ _ (hK _ _ hkx ⟨gY, owns_apart o1 hg4 hap1, (by rw [HH.out, flat_snoc]; exact o4), hap4⟩)
        case finA =>
          rintro x v hc ⟨gv, o1, o2, hap1⟩ hd
          clear hd
          obtain ⟨r1, hr1⟩ : ∃ r, x 4 = r := ⟨_, rfl⟩
          obtain ⟨r2, hr2⟩ : ∃ r, x 9 = r := ⟨_, rfl⟩
          rw [hr1, hr2] at hap1
          rw [hr1] at o1
          rw [hr2] at o2
          obtain ⟨x, rfl⟩ := upd_of hr1
          obtain ⟨x, rfl⟩ := upd_of (show x 9 = r2 from by rw [← hr2, upd_ne]; decide)
          show wpList Try.prog _ _ (List.drop 10 _) (⟨#[_, _, _, _, _, _, _, _, _, _, _, _, _, _, _, _, _, _, _, _, _, _, _, _, _, _, _, _, _, _, x 0, x 1, x 2, x 3, r1, x 5, x 6, x 7, x 8, r2, _, _, _, _, _, _, _], []⟩ : Act) v
          simp only [List.drop_succ_cons, List.drop_zero]
          go_wp2
          go_roundw
          case rel => exact Lib.hid ⟨k + 1, by omega, by go_num, gv, o1, o2, hap1⟩
          case measure => simp [intOf]; omega
      · obtain ⟨e1, e2⟩ : 0 = lw ∧ 100000 = hw := by
          have : ((0 : Int), (100000 : Int)) = (lw, hw) := by rw [← htr]; unfold truthAt; rw [List.getElem?_eq_none (by omega)]
          injection this with e1 e2
          exact ⟨e1, e2⟩
        have HE := Lib.hid (And.intro e1 e2)
        clear e1 e2
        go_upto_region 8 with fail
        have gX := Gr.al wr (.cells #[.int .i64 0, .int .i64 100000] 45)
        have oX := Box.new wr [.int .i64 0, .int .i64 100000] 45 wr.heap.size rfl
        obtain ⟨D, hD⟩ : ∃ D, D = wr.heap.size := ⟨_, rfl⟩
        rw [← hD] at oX ⊢
        have oX : Box (wr.alloc (.cells #[.int .i64 0, .int .i64 100000] 45)) D [.int .i64 lw, .int .i64 hw] := by rw [← HE.out.1, ← HE.out.2]; exact oX
        clear HE htr
        clear q0 q1 q2 q3
        have k1 : k + 1 ≤ maxLen := by unfold maxLen; omega
        have k2 : (k + 1) * 8 ≤ 140737488355328 := by omega
        have hsD : ∀ b, u7.ownBlock = some b → B0 ≤ b ∧ b < D := fun b e => by have := oA.lt b e; omega
        have htD : ∀ b, u8.ownBlock = some b → B0 ≤ b ∧ b < D := fun b e => by have := oR.lt b e; omega
        have hD1 : wr.heap.size ≤ D ∧ D ≤ wr.heap.size := by omega
        clear hD
        refine wp_abs (fun X => Gr wr X ∧ Box X D [.int .i64 lw, .int .i64 hw]) ⟨gX, oX⟩ ?_
        clear gX oX
        rintro X ⟨gX, hbx⟩
        have oA := owns_keep oA gX
        have oR := owns_keep oR gX
        have gX := gW.tr gX
        refine (show (∀ y : Nat → Value, Code.wp Try.prog _ _ ⟨#[s 0, .slice a l.length cap, .int .i64 off, .pointer (some ⟨w.heap.size, 0, none⟩), s 4, s 5, s 6, u7, u8, .int .i64 (k : Int), .pointer (some ⟨D, 0, none⟩), s 11, s 12, y 13, y 14, y 15, y 16, y 17, y 18, y 19, y 20, y 21, y 22, y 23, y 24, y 25, y 26, y 27, y 28, y 29, y 30, y 31, y 32, y 33, y 34, y 35, y 36, y 37, y 38, y 39, undef, undef, undef, undef, undef, undef, undef], []⟩ _) → _ from fun h => h ((fun l : List Value => fun i => l.getD i undef) [undef, undef, undef, undef, undef, undef, undef, undef, undef, undef, undef, undef, undef, _, _, _, _, _, _, _, _, _, _, _, _, _, _, _, _, _, _, _, _, _, _, _, _, _, _, _])) ?_
        intro y
        dsimp only
        refine wp_region_two (fun b => b < D) 10 4 9 [(2, 1), (3, 2), (4, 0), (4, 3), (7, 6), (8, 7), (9, 5), (9, 8), (9, 4)] (fun x => ⟨#[s 0, .slice a l.length cap, .int .i64 off, .pointer (some ⟨w.heap.size, 0, none⟩), s 4, s 5, s 6, u7, u8, .int .i64 (k : Int), .pointer (some ⟨D, 0, none⟩), s 11, s 12, y 13, y 14, y 15, y 16, y 17, y 18, y 19, y 20, y 21, y 22, y 23, y 24, y 25, y 26, y 27, y 28, y 29, x 0, x 1, x 2, x 3, x 4, x 5, x 6, x 7, x 8, x 9, undef, undef, undef, undef, undef, undef, undef], []⟩) (fun i => [y 30, y 31, y 32, y 33, y 34, y 35, y 36, y 37, y 38, y 39].getD i undef) [fun _ x => x = u7, fun _ x => x = .pointer (some ⟨D, 0, none⟩), fun _ x => x = .int .i64 lw, fun v x => ∃ b, x = .slice (some ⟨b, 0, none⟩) 1 1 ∧ D ≤ b ∧ Box v b [.int .i64 lw], fun _ _ => True, fun _ x => x = u8, fun _ x => x = .pointer (some ⟨D, 1, none⟩), fun _ x => x = .int .i64 hw, fun v x => ∃ b, x = .slice (some ⟨b, 0, none⟩) 1 1 ∧ D ≤ b ∧ Box v b [.int .i64 hw], fun _ _ => True] (fun v => Box v D [.int .i64 lw, .int .i64 hw]) (fun v => Gr U v ∧ v.ownsRow B0 3 1 u7 k ((endsL false off l k).flatMap encI) ∧ v.ownsRow B0 3 1 u8 k ((endsL true off l k).flatMap encI)) (fun v x => Gr U v ∧ v.ownsRow B0 3 1 x (k + 1) ((endsL false off l (k + 1)).flatMap encI) ∧ v.ownsRow B0 3 1 u8 k ((endsL true off l k).flatMap encI) ∧ Apart x u8) (fun v x y => Gr U v ∧ v.ownsRow B0 3 1 x (k + 1) ((endsL false off l (k + 1)).flatMap encI) ∧ v.ownsRow B0 3 1 y (k + 1) ((endsL true off l (k + 1)).flatMap encI) ∧ Apart x y) (by rfl) (by kernel_rfl) (by kernel_rfl) (by kernel_rfl) (by simp) (by omega) (by omega) (by omega) (staysZ_cons (StaysZ.eq _ _) (staysZ_cons (StaysZ.eq _ _) (staysZ_cons (StaysZ.eq _ _) (staysZ_cons (show StaysZ (fun b => b < D) (fun v x => ∃ b, x = .slice (some ⟨b, 0, none⟩) 1 1 ∧ D ≤ b ∧ Box v b [.int .i64 lw]) from fun v v' x g ⟨b, h, h1, h2⟩ => ⟨b, h, h1, h2.kx g (by omega)⟩) (staysZ_cons (fun _ _ _ _ _ => trivial) (staysZ_cons (StaysZ.eq _ _) (staysZ_cons (StaysZ.eq _ _) (staysZ_cons (StaysZ.eq _ _) (staysZ_cons (show StaysZ (fun b => b < D) (fun v x => ∃ b, x = .slice (some ⟨b, 0, none⟩) 1 1 ∧ D ≤ b ∧ Box v b [.int .i64 hw]) from fun v v' x g ⟨b, h, h1, h2⟩ => ⟨b, h, h1, h2.kx g (by omega)⟩) (staysZ_cons (fun _ _ _ _ _ => trivial) staysZ_nil))))))))))
          (fun v v' g h => h.kx g (by omega)) (fun v v' g h => ⟨h.1.tr g, owns_keep h.2.1 g, owns_keep h.2.2 g⟩) (fun v v' x g h => ⟨h.1.tr g, owns_keep h.2.1 g, owns_keep h.2.2.1 g, h.2.2.2⟩) (fun v v' x y g h => ⟨h.1.tr g, owns_keep h.2.1 g, owns_keep h.2.2.1 g, h.2.2.2⟩) (hbx.keep (Gr.dr _)) ⟨gX.tr (Gr.dr _), owns_keep oA (Gr.dr _), owns_keep oR (Gr.dr _)⟩ ?stepB ?ppB ?qqB ?finB
        case stepB =>
          rintro i hi np nq x v hc hd K hK
          have hi8 : i = 0 ∨ i = 1 ∨ i = 2 ∨ i = 3 ∨ i = 5 ∨ i = 6 ∨ i = 7 ∨ i = 8 := by omega
          rcases hi8 with rfl | rfl | rfl | rfl | rfl | rfl | rfl | rfl
          · show wpOp Try.prog _ _ 0 K (⟨#[_, _, _, _, _, _, _, _, _, _, _, _, _, _, _, _, _, _, _, _, _, _, _, _, _, _, _, _, _, _, x 0, x 1, x 2, x 3, x 4, x 5, x 6, x 7, x 8, x 9, _, _, _, _, _, _, _], []⟩ : Act) v
            refine wpOp_step rfl (fun K' hK' => ?_)
            go_simp
            exact hK' _ _ (hK _ _ (Below.refl _ _) (at_of rfl (rfl)))
          · show wpOp Try.prog _ _ 1 K (⟨#[_, _, _, _, _, _, _, _, _, _, _, _, _, _, _, _, _, _, _, _, _, _, _, _, _, _, _, _, _, _, x 0, x 1, x 2, x 3, x 4, x 5, x 6, x 7, x 8, x 9, _, _, _, _, _, _, _], []⟩ : Act) v
            refine wpOp_step rfl (fun K' hK' => ?_)
            go_simp
            exact hK' _ _ (hK _ _ (Below.refl _ _) (at_of rfl (rfl)))
          · obtain ⟨x, rfl⟩ := upd_of (show x 1 = .pointer (some ⟨D, 0, none⟩) from hd 1 _ (by simp) (by decide) (by decide) rfl)
            show wpOp Try.prog _ _ 2 K (⟨#[_, _, _, _, _, _, _, _, _, _, _, _, _, _, _, _, _, _, _, _, _, _, _, _, _, _, _, _, _, _, x 0, .pointer (some ⟨D, 0, none⟩), x 2, x 3, x 4, x 5, x 6, x 7, x 8, x 9, _, _, _, _, _, _, _], []⟩ : Act) v
            have q := hc.2 0 _ rfl
            refine wpOp_step rfl (fun K' hK' => ?_)
            go_simp
            exact hK' _ _ (hK _ _ (Below.refl _ _) (at_of rfl (rfl)))
          · obtain ⟨x, rfl⟩ := upd_of (show x 2 = .int .i64 lw from hd 2 _ (by simp) (by decide) (by decide) rfl)
            show wpOp Try.prog _ _ 3 K (⟨#[_, _, _, _, _, _, _, _, _, _, _, _, _, _, _, _, _, _, _, _, _, _, _, _, _, _, _, _, _, _, x 0, x 1, .int .i64 lw, x 3, x 4, x 5, x 6, x 7, x 8, x 9, _, _, _, _, _, _, _], []⟩ : Act) v
            refine wpOp_step rfl (fun K' hK' => ?_)
            go_simp
            have gA := Gr.al v (.cells (List.toArray [.int .i64 lw]) 3)
            exact hK' _ _ (hK _ _ gA (at_of rfl ⟨v.heap.size, rfl, Nat.le_of_lt hc.1, Box.new v [.int .i64 lw] 3 v.heap.size rfl⟩))
          · show wpOp Try.prog _ _ 5 K (⟨#[_, _, _, _, _, _, _, _, _, _, _, _, _, _, _, _, _, _, _, _, _, _, _, _, _, _, _, _, _, _, x 0, x 1, x 2, x 3, x 4, x 5, x 6, x 7, x 8, x 9, _, _, _, _, _, _, _], []⟩ : Act) v
            refine wpOp_step rfl (fun K' hK' => ?_)
            go_simp
            exact hK' _ _ (hK _ _ (Below.refl _ _) (at_of rfl (rfl)))
          · show wpOp Try.prog _ _ 6 K (⟨#[_, _, _, _, _, _, _, _, _, _, _, _, _, _, _, _, _, _, _, _, _, _, _, _, _, _, _, _, _, _, x 0, x 1, x 2, x 3, x 4, x 5, x 6, x 7, x 8, x 9, _, _, _, _, _, _, _], []⟩ : Act) v
            refine wpOp_step rfl (fun K' hK' => ?_)
            go_simp
            exact hK' _ _ (hK _ _ (Below.refl _ _) (at_of rfl (rfl)))
          · obtain ⟨x, rfl⟩ := upd_of (show x 6 = .pointer (some ⟨D, 1, none⟩) from hd 6 _ (by simp) (by decide) (by decide) rfl)
            show wpOp Try.prog _ _ 7 K (⟨#[_, _, _, _, _, _, _, _, _, _, _, _, _, _, _, _, _, _, _, _, _, _, _, _, _, _, _, _, _, _, x 0, x 1, x 2, x 3, x 4, x 5, .pointer (some ⟨D, 1, none⟩), x 7, x 8, x 9, _, _, _, _, _, _, _], []⟩ : Act) v
            have q := hc.2 1 _ rfl
            refine wpOp_step rfl (fun K' hK' => ?_)
            go_simp
            exact hK' _ _ (hK _ _ (Below.refl _ _) (at_of rfl (rfl)))
          · obtain ⟨x, rfl⟩ := upd_of (show x 7 = .int .i64 hw from hd 7 _ (by simp) (by decide) (by decide) rfl)
            show wpOp Try.prog _ _ 8 K (⟨#[_, _, _, _, _, _, _, _, _, _, _, _, _, _, _, _, _, _, _, _, _, _, _, _, _, _, _, _, _, _, x 0, x 1, x 2, x 3, x 4, x 5, x 6, .int .i64 hw, x 8, x 9, _, _, _, _, _, _, _], []⟩ : Act) v
            refine wpOp_step rfl (fun K' hK' => ?_)
            go_simp
            have gA := Gr.al v (.cells (List.toArray [.int .i64 hw]) 3)
            exact hK' _ _ (hK _ _ gA (at_of rfl ⟨v.heap.size, rfl, Nat.le_of_lt hc.1, Box.new v [.int .i64 hw] 3 v.heap.size rfl⟩))
        case ppB =>
          rintro x v hc ⟨gv, o1, o2⟩ hd K hK
          obtain ⟨x, rfl⟩ := upd_of (show x 0 = u7 from hd 0 _ (by simp) (by decide) (by decide) rfl)
          obtain ⟨b3, e3, hb3, hx3⟩ := hd 3 _ (by simp) (by decide) (by decide) rfl
          obtain ⟨x, rfl⟩ := upd_of (show x 3 = .slice (some ⟨b3, 0, none⟩) 1 1 from e3)
          show wpOp Try.prog _ _ 4 K (⟨#[_, _, _, _, _, _, _, _, _, _, _, _, _, _, _, _, _, _, _, _, _, _, _, _, _, _, _, _, _, _, u7, x 1, x 2, .slice (some ⟨b3, 0, none⟩) 1 1, x 4, x 5, x 6, x 7, x 8, x 9, _, _, _, _, _, _, _], []⟩ : Act) v
          refine wpOp_step rfl (fun K' hK' => ?_)
          refine step_append_lies _ (by rfl) _ _ 24 (by rfl) B0 3 i0 (.int .i64 0) 1 8 Try.underlying24 hi hz0 hz1 hz2 rfl (by decide) u7 k _ (by rfl) o1 ⟨b3, 0, none⟩ 1 1 ([lw].map (fun n => Value.int .i64 n)) (by rfl) (by rfl) (fun j u hu => by have := hx3.2 j u hu; unfold Addr.add; split <;> simp_all) (ints_one _) (by omega) k1 k2 ?_ _ rfl ?_
          · have := gv.size
            omega
          intro g cp w4 o4 hg4 ha4 hl4
          have hkx : Kx (fun b => b < D) v w4 := Kx.grown hg4 (fun r e => .inl (hsD r e).2)
          have gY := gv.grown' o1 (by omega) hg4
          have hap4 : Apart (.slice (some ⟨g, 0, none⟩) (k + 1) cp) u8 := (Apart.after hap.symm ha4 (fun b e => (o2.lt b e).2)).symm
          exact hK' _ _ (hK _ _ hkx ⟨gY, (by rw [HA.out, flat_snoc]; exact o4), owns_apart o2 hg4 hap.symm, hap4⟩)
        case qqB =>
          rintro x v hc ⟨gv, o1, o2, hap1⟩ hd K hK
          obtain ⟨r1, hr1⟩ : ∃ r, x 4 = r := ⟨_, rfl⟩
          rw [hr1] at o1 hap1 hK
          obtain ⟨x, rfl⟩ := upd_of hr1
          obtain ⟨x, rfl⟩ := upd_of (show x 5 = u8 from hd 5 _ (by simp) (by decide) (by decide) rfl)
          obtain ⟨b8, e8, hb8, hx8⟩ := hd 8 _ (by simp) (by decide) (by decide) rfl
          obtain ⟨x, rfl⟩ := upd_of (show x 8 = .slice (some ⟨b8, 0, none⟩) 1 1 from e8)
          show wpOp Try.prog _ _ 9 K (⟨#[_, _, _, _, _, _, _, _, _, _, _, _, _, _, _, _, _, _, _, _, _, _, _, _, _, _, _, _, _, _, x 0, x 1, x 2, x 3, r1, u8, x 6, x 7, .slice (some ⟨b8, 0, none⟩) 1 1, x 9, _, _, _, _, _, _, _], []⟩ : Act) v
          refine wpOp_step rfl (fun K' hK' => ?_)
          refine step_append_lies _ (by rfl) _ _ 24 (by rfl) B0 3 i0 (.int .i64 0) 1 8 Try.underlying24 hi hz0 hz1 hz2 rfl (by decide) u8 k _ (by rfl) o2 ⟨b8, 0, none⟩ 1 1 ([hw].map (fun n => Value.int .i64 n)) (by rfl) (by rfl) (fun j u hu => by have := hx8.2 j u hu; unfold Addr.add; split <;> simp_all) (ints_one _) (by omega) k1 k2 ?_ _ rfl ?_
          · have := gv.size
            omega
          intro g cp w4 o4 hg4 ha4 hl4
          have hkx : Kx (fun b => b < D) v w4 := Kx.grown hg4 (fun r e => .inl (htD r e).2)
          have gY := gv.grown' o2 (by omega) hg4
          have hap4 : Apart r1 (.slice (some ⟨g, 0, none⟩) (k + 1) cp) := Apart.after hap1 ha4 (fun b e => (o1.lt b e).2)
          exact hK' _ _ (hK _ _ hkx ⟨gY, owns_apart o1 hg4 hap1, (by rw [HH.out, flat_snoc]; exact o4), hap4⟩)
        case finB =>
          rintro x v hc ⟨gv, o1, o2, hap1⟩ hd
          clear hd
          obtain ⟨r1, hr1⟩ : ∃ r, x 4 = r := ⟨_, rfl⟩
          obtain ⟨r2, hr2⟩ : ∃ r, x 9 = r := ⟨_, rfl⟩
          rw [hr1, hr2] at hap1
          rw [hr1] at o1
          rw [hr2] at o2
          obtain ⟨x, rfl⟩ := upd_of hr1
          obtain ⟨x, rfl⟩ := upd_of (show x 9 = r2 from by rw [← hr2, upd_ne]; decide)
          show wpList Try.prog _ _ (List.drop 10 _) (⟨#[_, _, _, _, _, _, _, _, _, _, _, _, _, _, _, _, _, _, _, _, _, _, _, _, _, _, _, _, _, _, x 0, x 1, x 2, x 3, r1, x 5, x 6, x 7, x 8, r2, _, _, _, _, _, _, _], []⟩ : Act) v
          simp only [List.drop_succ_cons, List.drop_zero]
          go_wp2
          go_roundw
          case rel => exact Lib.hid ⟨k + 1, by omega, by go_num, gv, o1, o2, hap1⟩
          case measure => simp [intOf]; omega
    · obtain rfl : n = k := by omega
      clear hlt hk
      have e1 := endsL_len false off l n
      have e2 := endsL_len true off l n
      obtain ⟨ra, rc, hva, rA, _, _⟩ := owns_row_cap (enc := encI) (l := endsL false off l n) (fun _ => rfl) (by omega) (by rw [e1]; exact oA)
      obtain ⟨rb, rd, hvb, rB, _, _⟩ := owns_row_cap (enc := encI) (l := endsL true off l n) (fun _ => rfl) (by omega) (by rw [e2]; exact oR)
      rw [e1] at hva
      rw [e2] at hvb
      subst hva
      subst hvb
      obtain ⟨p1, hp1⟩ : ∃ p, passB false (n : Int) me lo ba (truthsL n off l) = p := ⟨_, rfl⟩
      obtain ⟨p2, hp2⟩ : ∃ p, passB true (n : Int) me lo ba (truthsL n off l) = p := ⟨_, rfl⟩
      have E : stateL (n : Int) me lo ba (truthsL n off l) = if p1 = true then 1 else if p2 = true then 3 else 2 := by unfold stateL; rw [hp1, hp2]
      have HE := Lib.hid E
      have H1 : Hid (∀ W, Gr wr W → Calls Try.prog 65 #[.agg #[.int .i64 (n : Int), .int .i64 me, .int .i64 lo, .int .i64 ba], .slice ra n rc] W fun e w' => e = .returned (.bool p1) ∧ Gr W w') := Lib.hid (fun W g => by
        have h := refPasses_any (n : Int) me lo ba (endsL false off l n) (by omega) (endsL_bd o0 o1 HB.out) (by omega) (by omega) m0 m1 ra rc W (rA.grow g)
        rw [ends_pass, hp1, e1] at h
        exact h)
      have H2 : Hid (∀ W, Gr wr W → Calls Try.prog 65 #[.agg #[.int .i64 (n : Int), .int .i64 me, .int .i64 lo, .int .i64 ba], .slice rb n rd] W fun e w' => e = .returned (.bool p2) ∧ Gr W w') := Lib.hid (fun W g => by
        have h := refPasses_any (n : Int) me lo ba (endsL true off l n) (by omega) (endsL_bd o0 o1 HB.out) (by omega) (by omega) m0 m1 rb rd W (rB.grow g)
        rw [ends_pass, hp2, e2] at h
        exact h)
      clear E hp1 hp2 e1 e2 rA rB oA oR hap
      have hbw := hb.keep gW
      obtain ⟨q0, q1, q2, q3⟩ := hbw.c4'
      have tok0 : True := trivial
      cases p1 with
      | true =>
        go_wp2_with (go_at_call 65; refine (H1.out _ (Below.refl _ _)).mono ?_; rintro e w5 ⟨rfl, g5⟩)
        go_ret
        exact ⟨by rw [HE.out]; rfl, gg.tr (gW.tr g5)⟩
      | false =>
        cases p2 with
        | true =>
          go_wp2_with (first
            | (have _t := tok0; clear tok0 _t; go_at_call 65; refine (H1.out _ (Below.refl _ _)).mono ?_; rintro e w5 ⟨rfl, g5⟩; (obtain ⟨x0, x1, x2, x3⟩ := (hbw.keep g5).c4'))
            | (go_at_call 65; refine (H2.out _ g5).mono ?_; rintro e w6 ⟨rfl, g6⟩))
          go_ret
          exact ⟨by rw [HE.out]; rfl, gg.tr (gW.tr (g5.tr g6))⟩
        | false =>
          go_wp2_with (first
            | (have _t := tok0; clear tok0 _t; go_at_call 65; refine (H1.out _ (Below.refl _ _)).mono ?_; rintro e w5 ⟨rfl, g5⟩; (obtain ⟨x0, x1, x2, x3⟩ := (hbw.keep g5).c4'))
            | (go_at_call 65; refine (H2.out _ g5).mono ?_; rintro e w6 ⟨rfl, g6⟩))
          go_ret
          exact ⟨by rw [HE.out]; rfl, gg.tr (gW.tr (g5.tr g6))⟩

end Go.Proofs.Ytkfhmfidgdpeiaa

namespace Go.Proofs.Ytkfhmfidgdpeiaa
set_option linter.unusedVariables false
set_option linter.unusedSimpArgs false
open Go.RowKit

set_option maxRecDepth 100000 in
theorem lints_gen (l : List Int) (hl : l.length ≤ 1000) (a : Option Addr) (cap : Nat) (w : World) (hr : IRow w a l) :
    Calls Try.prog 17 #[.slice a l.length cap] w fun e w' => ∃ a' cap', e = .returned (.slice a' l.length cap') ∧ IRow w' a' l ∧ (a' = none → cap' = 0) ∧ l.length ≤ cap' ∧ Gr w w' := by
  cases a with
  | none =>
    obtain rfl : l = [] := irow_nil hr
    go_enter Try.func17, Try.ntmps17
    go_wp2
    go_ret
    exact ⟨some ⟨w.heap.size, 0, none⟩, 0, rfl, RowOf.nil, fun h => (by cases h), Nat.le_refl _, Gr.al _ _⟩
  | some ad =>
    rcases Nat.eq_zero_or_pos l.length with h0 | h0
    · obtain rfl : l = [] := List.eq_nil_of_length_eq_zero h0
      obtain ⟨i0, hi, hz0, hz1, hz2⟩ := info_parts infoInt
      go_enter Try.func17, Try.ntmps17
      go_wp2_with (at_builtin; refine wpList_append_own _ rfl _ _ 24 rfl w.heap.size 3 i0 (.int .i64 0) 1 8 Try.underlying24 hi hz0 hz1 hz2 rfl (by decide) _ _ _ rfl (owns_empty w _ _) ad 0 cap [] rfl rfl (fun j u h => by simp at h) (fun u h => by cases h) (by decide) (by decide) (by simp) ?_; intro v' w1 hown hgrow _)
      obtain ⟨a', cap', hv, hr2, hn2, hc2⟩ := owns_row_cap (enc := encI) (l := []) (fun _ => rfl) (by simp) (by simpa using hown)
      subst hv
      have Hr2 := Lib.hid hr2
      have Hn2 := Lib.hid hn2
      clear hr2 hn2 hown
      go_wp2
      go_ret
      first | exact ⟨a', cap', rfl, Hr2.out, Hn2.out, Nat.zero_le _, (Gr.al w _).grown' (owns_empty w _ 1) (Nat.le_refl _) hgrow⟩ | exact ⟨a', cap', rfl, Hr2.out, Hn2.out, (Gr.al w _).grown' (owns_empty w _ 1) (Nat.le_refl _) hgrow⟩
    · obtain ⟨b, off, e, _⟩ := hr.addr h0
      injection e with e
      subst e
      exact lints_any l hl b off cap w hr

theorem needL_some {n : Nat} {me lo ba off : Int} {l : List Int} {st rd : Int} {k : Nat} (hk : l.length + k ≤ n) (h : stAt n me lo ba off l rd k = st) (hb : ∀ j, j < k → stAt n me lo ba off l rd j ≠ st) : needL n me lo ba off l st rd = (k : Int) := by
  have hf : (List.range (n + 1 - l.length)).find? (fun k => decide (stAt n me lo ba off l rd k = st)) = some k := by
    rw [List.find?_range_eq_some]
    exact ⟨by simp [h], List.mem_range.2 (by omega), fun j hj => by simpa using hb j hj⟩
  unfold needL
  rw [hf]

theorem needL_none {n : Nat} {me lo ba off : Int} {l : List Int} {st rd : Int} (hb : ∀ j, j < n + 1 - l.length → stAt n me lo ba off l rd j ≠ st) : needL n me lo ba off l st rd = -1 := by
  have hf : (List.range (n + 1 - l.length)).find? (fun k => decide (stAt n me lo ba off l rd k = st)) = none := by
    rw [List.find?_range_eq_none]
    intro j hj
    simpa using hb j hj
  unfold needL
  rw [hf]

set_option maxRecDepth 100000 in
set_option maxHeartbeats 8000000 in
theorem refNeed_any (n : Nat) (me lo ba off : Int) (l : List Int) (st rd : Int) (n1 : 1 ≤ n) (n2 : n ≤ 20) (m0 : 0 ≤ me) (m1 : me ≤ 100000) (o0 : 0 ≤ off) (o1 : off ≤ 1000) (hl : l.length ≤ n) (hB : ∀ r ∈ l, 0 ≤ r ∧ r ≤ 100000) (rd0 : 0 ≤ rd) (rd1 : rd ≤ 100000) (a : Option Addr) (cap : Nat) (w : World) (hr : IRow w a l) :
    Calls Try.prog 24 #[.agg #[.int .i64 (n : Int), .int .i64 me, .int .i64 lo, .int .i64 ba], .slice a l.length cap, .int .i64 off, .int .i64 rd, .int .i64 st] w fun e w' => e = .returned (.int .i64 (needL n me lo ba off l st rd)) ∧ Gr w w' := by
  have gg := Gr.al w (.cells #[.int .i64 (n : Int), .int .i64 me, .int .i64 lo, .int .i64 ba] 23)
  have hb := Box.new w [.int .i64 (n : Int), .int .i64 me, .int .i64 lo, .int .i64 ba] 23 w.heap.size rfl
  have HB := Lib.hid hB
  clear hB
  obtain ⟨i0, hi, hz0, hz1, hz2⟩ := info_parts infoInt
  go_enter Try.func24, Try.ntmps24
  go_upto_region 1 with fail
  refine wp_abs (fun U => Gr w U ∧ Box U w.heap.size [.int .i64 (n : Int), .int .i64 me, .int .i64 lo, .int .i64 ba]) ⟨gg, hb⟩ ?_
  clear gg hb
  rintro U ⟨gg, hb⟩
  have hrU := hr.grow gg
  obtain ⟨B0, hB0⟩ : ∃ B0, B0 = U.heap.size := ⟨_, rfl⟩
  have hB1 : U.heap.size ≤ B0 ∧ B0 ≤ U.heap.size := by omega
  have g1 := Gr.al U (.cells #[] 3)
  have oE := owns_empty U 3 1
  have h1 : 0 + l.length ≤ maxLen := by unfold maxLen; omega
  have h2 : (0 + l.length) * 8 ≤ 140737488355328 := by omega
  have hfl := flat_len (enc := encI) (sz := 1) (fun _ => rfl) l
  rcases Nat.eq_zero_or_pos l.length with h0 | h0
  · obtain rfl : l = [] := List.eq_nil_of_length_eq_zero h0
    simp only [List.length_nil]
    clear h0 h1 h2 hfl
    cases a with
    | none =>
      go_upto_region 2 with fail
      rw [← hB0] at oE ⊢
      clear hB0
      refine wp_abs (fun V => Gr U V ∧ V.ownsRow B0 3 1 (.slice (some ⟨B0, 0, none⟩) 0 0) ([] : List Int).length (([] : List Int).flatMap encI)) ⟨g1, oE⟩ ?_
      clear g1 oE
      rintro V ⟨gV, oV⟩
      obtain ⟨m, hm⟩ : ∃ m, ([] : List Int).length = m := ⟨_, rfl⟩
      rw [hm] at hl
      have HM := Lib.hid hm
      rw [hm] at oV
      clear hm
      go_wp2
      go_loopw [12, 11] (fun i s wr => Hid (∃ k : Nat, m + k ≤ n + 1 ∧ i = .int .i64 k ∧ Gr U wr ∧ wr.ownsRow B0 3 1 s (m + k) ((([] : List Int) ++ List.replicate k rd).flatMap encI) ∧ ∀ j, j < k → stAt n me lo ba off ([] : List Int) rd j ≠ st)) (fun i _ _ => n + 1 - m - (intOf i).toNat)
      case atStart => exact Lib.hid ⟨0, by omega, rfl, gV, (by simpa using oV), fun j hj => by omega⟩
      case round =>
        clear gV oV
        obtain ⟨k, hk, rfl, gW, oW, hp⟩ := hrel.out
        clear hrel
        have HP := Lib.hid hp
        clear hp
        have hGl : (([] : List Int) ++ List.replicate k rd).length = m + k := by rw [List.length_append, List.length_replicate, HM.out]
        obtain ⟨ra, rc, hva, rA, _, _⟩ := owns_row_cap (enc := encI) (l := ([] : List Int) ++ List.replicate k rd) (fun _ => rfl) (by omega) (by rw [hGl]; exact oW)
        rw [hGl] at hva
        subst hva
        have hbw := hb.keep gW
        obtain ⟨q0, q1, q2, q3⟩ := hbw.c4'
        by_cases hlt : m + k ≤ n
        · obtain ⟨s, hs⟩ : ∃ s, stAt n me lo ba off ([] : List Int) rd k = s := ⟨_, rfl⟩
          have hD := refDecide_any n me lo ba off (([] : List Int) ++ List.replicate k rd) n1 n2 m0 m1 o0 o1 (by omega) (fun r hr' => by
            rcases List.mem_append.1 hr' with h | h
            · exact HB.out r h
            · obtain ⟨_, rfl⟩ := List.mem_replicate.1 h
              omega) ra rc wr rA
          unfold stAt at hs
          rw [hs, hGl] at hD
          have hs' : stAt n me lo ba off ([] : List Int) rd k = s := hs
          have HD := Lib.hid hD
          have HSS := Lib.hid hs'
          clear hD hs hs' hGl
          have c1 : ((m + k : Nat) : Int) ≤ (n : Int) := by omega
          have c1' : (m : Int) + (k : Int) ≤ (n : Int) := by omega
          by_cases hst : s = st
          · have d0 : (s == st) = true := by simpa using hst
            have E := Lib.hid (needL_some (by rw [HM.out]; exact hlt) (HSS.out.trans hst) HP.out)
            clear hst
            go_wp2_with (go_at_call 23; refine HD.out.mono ?_; rintro e w5 ⟨rfl, g5⟩)
            go_ret
            exact ⟨by rw [E.out]; rfl, gg.tr (gW.tr g5)⟩
          · have d0 : (s == st) = false := by simpa using hst
            have HP2 := Lib.hid (show ∀ j, j < k + 1 → stAt n me lo ba off ([] : List Int) rd j ≠ st from fun j hj => by
              rcases Nat.lt_or_ge j k with h | h
              · exact HP.out j h
              · obtain rfl : j = k := by omega
                rw [HSS.out]
                exact hst)
            have k1 : m + k + 1 ≤ maxLen := by unfold maxLen; omega
            have k2 : (m + k + 1) * 8 ≤ 140737488355328 := by omega
            clear hst
            go_wp2_with (first
              | (go_at_call 23; refine HD.out.mono ?_; rintro e w5 ⟨rfl, g5⟩)
              | (at_builtin; refine wpList_append_own _ rfl _ _ 24 rfl B0 3 i0 (.int .i64 0) 1 8 Try.underlying24 hi hz0 hz1 hz2 rfl (by decide) (.slice ra (m + k) rc) (m + k) _ rfl (owns_keep oW (g5.tr (Gr.al w5 (.cells #[.int .i64 rd] 3)))) ⟨w5.heap.size, 0, none⟩ 1 1 ([(rd : Int)].map (fun n => Value.int .i64 n)) rfl rfl (cell_news _ _ _) (ints_one _) k1 k2 (by have := (gW.tr (g5.tr (Gr.al w5 (.cells #[.int .i64 rd] 3)))).size; omega) ?_; intro v' w6 hown' hgrow' _))
            go_roundw
            case rel =>
              have gN := g5.tr (Gr.al w5 (.cells #[.int .i64 rd] 3))
              have gZ := (gW.tr gN).grown' (owns_keep oW gN) (by omega) hgrow'
              exact Lib.hid ⟨k + 1, by omega, by go_num, gZ, (by rw [List.replicate_succ', ← List.append_assoc, flat_snoc]; exact hown'), HP2.out⟩
            case measure => simp [intOf]; omega
        · have c1 : ¬ ((m + k : Nat) : Int) ≤ (n : Int) := by omega
          have c1' : ¬ (m : Int) + (k : Int) ≤ (n : Int) := by omega
          have c2 : decide ((m : Int) + (k : Int) ≤ (n : Int)) = false := by simpa using c1'
          have E := Lib.hid (needL_none (n := n) (me := me) (lo := lo) (ba := ba) (off := off) (l := ([] : List Int)) (st := st) (rd := rd) (fun j hj => HP.out j (by rw [HM.out] at hj; omega)))
          go_wp2
          go_ret
          exact ⟨by rw [E.out]; rfl, gg.tr gW⟩
    | some ad =>
      go_upto_region 2 with (at_builtin; refine wpList_append_own _ rfl _ _ 24 rfl U.heap.size 3 i0 (.int .i64 0) 1 8 Try.underlying24 hi hz0 hz1 hz2 rfl (by decide) _ _ _ rfl oE ad 0 cap [] rfl rfl (fun j u h => by simp at h) (fun u h => by cases h) (by decide) (by decide) (by simp) ?_; intro v' w1 hown hgrow _)
      have gV := g1.grown' oE (Nat.le_refl _) hgrow
      have oV : w1.ownsRow U.heap.size 3 1 v' ([] : List Int).length (([] : List Int).flatMap encI) := by simpa using hown
      rw [← hB0] at oV
      clear hB0 hown hgrow oE g1
      refine wp_abs (fun V => Gr U V ∧ V.ownsRow B0 3 1 v' ([] : List Int).length (([] : List Int).flatMap encI)) ⟨gV, oV⟩ ?_
      clear gV oV
      rintro V ⟨gV, oV⟩
      obtain ⟨m, hm⟩ : ∃ m, ([] : List Int).length = m := ⟨_, rfl⟩
      rw [hm] at hl
      have HM := Lib.hid hm
      rw [hm] at oV
      clear hm
      go_wp2
      go_loopw [12, 11] (fun i s wr => Hid (∃ k : Nat, m + k ≤ n + 1 ∧ i = .int .i64 k ∧ Gr U wr ∧ wr.ownsRow B0 3 1 s (m + k) ((([] : List Int) ++ List.replicate k rd).flatMap encI) ∧ ∀ j, j < k → stAt n me lo ba off ([] : List Int) rd j ≠ st)) (fun i _ _ => n + 1 - m - (intOf i).toNat)
      case atStart => exact Lib.hid ⟨0, by omega, rfl, gV, (by simpa using oV), fun j hj => by omega⟩
      case round =>
        clear gV oV
        obtain ⟨k, hk, rfl, gW, oW, hp⟩ := hrel.out
        clear hrel
        have HP := Lib.hid hp
        clear hp
        have hGl : (([] : List Int) ++ List.replicate k rd).length = m + k := by rw [List.length_append, List.length_replicate, HM.out]
        obtain ⟨ra, rc, hva, rA, _, _⟩ := owns_row_cap (enc := encI) (l := ([] : List Int) ++ List.replicate k rd) (fun _ => rfl) (by omega) (by rw [hGl]; exact oW)
        rw [hGl] at hva
        subst hva
        have hbw := hb.keep gW
        obtain ⟨q0, q1, q2, q3⟩ := hbw.c4'
        by_cases hlt : m + k ≤ n
        · obtain ⟨s, hs⟩ : ∃ s, stAt n me lo ba off ([] : List Int) rd k = s := ⟨_, rfl⟩
          have hD := refDecide_any n me lo ba off (([] : List Int) ++ List.replicate k rd) n1 n2 m0 m1 o0 o1 (by omega) (fun r hr' => by
            rcases List.mem_append.1 hr' with h | h
            · exact HB.out r h
            · obtain ⟨_, rfl⟩ := List.mem_replicate.1 h
              omega) ra rc wr rA
          unfold stAt at hs
          rw [hs, hGl] at hD
          have hs' : stAt n me lo ba off ([] : List Int) rd k = s := hs
          have HD := Lib.hid hD
          have HSS := Lib.hid hs'
          clear hD hs hs' hGl
          have c1 : ((m + k : Nat) : Int) ≤ (n : Int) := by omega
          have c1' : (m : Int) + (k : Int) ≤ (n : Int) := by omega
          by_cases hst : s = st
          · have d0 : (s == st) = true := by simpa using hst
            have E := Lib.hid (needL_some (by rw [HM.out]; exact hlt) (HSS.out.trans hst) HP.out)
            clear hst
            go_wp2_with (go_at_call 23; refine HD.out.mono ?_; rintro e w5 ⟨rfl, g5⟩)
            go_ret
            exact ⟨by rw [E.out]; rfl, gg.tr (gW.tr g5)⟩
          · have d0 : (s == st) = false := by simpa using hst
            have HP2 := Lib.hid (show ∀ j, j < k + 1 → stAt n me lo ba off ([] : List Int) rd j ≠ st from fun j hj => by
              rcases Nat.lt_or_ge j k with h | h
              · exact HP.out j h
              · obtain rfl : j = k := by omega
                rw [HSS.out]
                exact hst)
            have k1 : m + k + 1 ≤ maxLen := by unfold maxLen; omega
            have k2 : (m + k + 1) * 8 ≤ 140737488355328 := by omega
            clear hst
            go_wp2_with (first
              | (go_at_call 23; refine HD.out.mono ?_; rintro e w5 ⟨rfl, g5⟩)
              | (at_builtin; refine wpList_append_own _ rfl _ _ 24 rfl B0 3 i0 (.int .i64 0) 1 8 Try.underlying24 hi hz0 hz1 hz2 rfl (by decide) (.slice ra (m + k) rc) (m + k) _ rfl (owns_keep oW (g5.tr (Gr.al w5 (.cells #[.int .i64 rd] 3)))) ⟨w5.heap.size, 0, none⟩ 1 1 ([(rd : Int)].map (fun n => Value.int .i64 n)) rfl rfl (cell_news _ _ _) (ints_one _) k1 k2 (by have := (gW.tr (g5.tr (Gr.al w5 (.cells #[.int .i64 rd] 3)))).size; omega) ?_; intro v' w6 hown' hgrow' _))
            go_roundw
            case rel =>
              have gN := g5.tr (Gr.al w5 (.cells #[.int .i64 rd] 3))
              have gZ := (gW.tr gN).grown' (owns_keep oW gN) (by omega) hgrow'
              exact Lib.hid ⟨k + 1, by omega, by go_num, gZ, (by rw [List.replicate_succ', ← List.append_assoc, flat_snoc]; exact hown'), HP2.out⟩
            case measure => simp [intOf]; omega
        · have c1 : ¬ ((m + k : Nat) : Int) ≤ (n : Int) := by omega
          have c1' : ¬ (m : Int) + (k : Int) ≤ (n : Int) := by omega
          have c2 : decide ((m : Int) + (k : Int) ≤ (n : Int)) = false := by simpa using c1'
          have E := Lib.hid (needL_none (n := n) (me := me) (lo := lo) (ba := ba) (off := off) (l := ([] : List Int)) (st := st) (rd := rd) (fun j hj => HP.out j (by rw [HM.out] at hj; omega)))
          go_wp2
          go_ret
          exact ⟨by rw [E.out]; rfl, gg.tr gW⟩
  · obtain ⟨b, of1, rfl, _⟩ := hrU.addr h0
    have hnews := row_news (enc := encI) (sz := 1) (fun _ => rfl) (hrU.grow g1)
    have Hnews := Lib.hid hnews
    have Hfl := Lib.hid hfl
    clear hnews hfl
    go_upto_region 2 with (at_builtin; refine wpList_append_own _ rfl _ _ 24 rfl U.heap.size 3 i0 (.int .i64 0) 1 8 Try.underlying24 hi hz0 hz1 hz2 rfl (by decide) _ _ _ rfl oE ⟨b, of1, none⟩ l.length cap (l.flatMap encI) rfl Hfl.out Hnews.out (one_flat (fun x u hu => by simp [encI] at hu; subst hu; rfl) l) h1 h2 (by simp) ?_; intro v' w1 hown hgrow _)
    have gV := g1.grown' oE (Nat.le_refl _) hgrow
    have oV : w1.ownsRow U.heap.size 3 1 v' l.length (l.flatMap encI) := by simpa using hown
    rw [← hB0] at oV
    clear hB0 hown hgrow oE g1 Hnews Hfl
    refine wp_abs (fun V => Gr U V ∧ V.ownsRow B0 3 1 v' l.length (l.flatMap encI)) ⟨gV, oV⟩ ?_
    clear gV oV
    rintro V ⟨gV, oV⟩
    obtain ⟨m, hm⟩ : ∃ m, l.length = m := ⟨_, rfl⟩
    rw [hm] at hl
    have HM := Lib.hid hm
    rw [hm] at oV
    clear hm
    go_wp2
    go_loopw [12, 11] (fun i s wr => Hid (∃ k : Nat, m + k ≤ n + 1 ∧ i = .int .i64 k ∧ Gr U wr ∧ wr.ownsRow B0 3 1 s (m + k) ((l ++ List.replicate k rd).flatMap encI) ∧ ∀ j, j < k → stAt n me lo ba off l rd j ≠ st)) (fun i _ _ => n + 1 - m - (intOf i).toNat)
    case atStart => exact Lib.hid ⟨0, by omega, rfl, gV, (by simpa using oV), fun j hj => by omega⟩
    case round =>
      clear gV oV
      obtain ⟨k, hk, rfl, gW, oW, hp⟩ := hrel.out
      clear hrel
      have HP := Lib.hid hp
      clear hp
      have hGl : (l ++ List.replicate k rd).length = m + k := by rw [List.length_append, List.length_replicate, HM.out]
      obtain ⟨ra, rc, hva, rA, _, _⟩ := owns_row_cap (enc := encI) (l := l ++ List.replicate k rd) (fun _ => rfl) (by omega) (by rw [hGl]; exact oW)
      rw [hGl] at hva
      subst hva
      have hbw := hb.keep gW
      obtain ⟨q0, q1, q2, q3⟩ := hbw.c4'
      by_cases hlt : m + k ≤ n
      · obtain ⟨s, hs⟩ : ∃ s, stAt n me lo ba off l rd k = s := ⟨_, rfl⟩
        have hD := refDecide_any n me lo ba off (l ++ List.replicate k rd) n1 n2 m0 m1 o0 o1 (by omega) (fun r hr' => by
          rcases List.mem_append.1 hr' with h | h
          · exact HB.out r h
          · obtain ⟨_, rfl⟩ := List.mem_replicate.1 h
            omega) ra rc wr rA
        unfold stAt at hs
        rw [hs, hGl] at hD
        have hs' : stAt n me lo ba off l rd k = s := hs
        have HD := Lib.hid hD
        have HSS := Lib.hid hs'
        clear hD hs hs' hGl
        have c1 : ((m + k : Nat) : Int) ≤ (n : Int) := by omega
        have c1' : (m : Int) + (k : Int) ≤ (n : Int) := by omega
        by_cases hst : s = st
        · have d0 : (s == st) = true := by simpa using hst
          have E := Lib.hid (needL_some (by rw [HM.out]; exact hlt) (HSS.out.trans hst) HP.out)
          clear hst
          go_wp2_with (go_at_call 23; refine HD.out.mono ?_; rintro e w5 ⟨rfl, g5⟩)
          go_ret
          exact ⟨by rw [E.out]; rfl, gg.tr (gW.tr g5)⟩
        · have d0 : (s == st) = false := by simpa using hst
          have HP2 := Lib.hid (show ∀ j, j < k + 1 → stAt n me lo ba off l rd j ≠ st from fun j hj => by
            rcases Nat.lt_or_ge j k with h | h
            · exact HP.out j h
            · obtain rfl : j = k := by omega
              rw [HSS.out]
              exact hst)
          have k1 : m + k + 1 ≤ maxLen := by unfold maxLen; omega
          have k2 : (m + k + 1) * 8 ≤ 140737488355328 := by omega
          clear hst
          go_wp2_with (first
            | (go_at_call 23; refine HD.out.mono ?_; rintro e w5 ⟨rfl, g5⟩)
            | (at_builtin; refine wpList_append_own _ rfl _ _ 24 rfl B0 3 i0 (.int .i64 0) 1 8 Try.underlying24 hi hz0 hz1 hz2 rfl (by decide) (.slice ra (m + k) rc) (m + k) _ rfl (owns_keep oW (g5.tr (Gr.al w5 (.cells #[.int .i64 rd] 3)))) ⟨w5.heap.size, 0, none⟩ 1 1 ([(rd : Int)].map (fun n => Value.int .i64 n)) rfl rfl (cell_news _ _ _) (ints_one _) k1 k2 (by have := (gW.tr (g5.tr (Gr.al w5 (.cells #[.int .i64 rd] 3)))).size; omega) ?_; intro v' w6 hown' hgrow' _))
          go_roundw
          case rel =>
            have gN := g5.tr (Gr.al w5 (.cells #[.int .i64 rd] 3))
            have gZ := (gW.tr gN).grown' (owns_keep oW gN) (by omega) hgrow'
            exact Lib.hid ⟨k + 1, by omega, by go_num, gZ, (by rw [List.replicate_succ', ← List.append_assoc, flat_snoc]; exact hown'), HP2.out⟩
          case measure => simp [intOf]; omega
      · have c1 : ¬ ((m + k : Nat) : Int) ≤ (n : Int) := by omega
        have c1' : ¬ (m : Int) + (k : Int) ≤ (n : Int) := by omega
        have c2 : decide ((m : Int) + (k : Int) ≤ (n : Int)) = false := by simpa using c1'
        have E := Lib.hid (needL_none (n := n) (me := me) (lo := lo) (ba := ba) (off := off) (l := l) (st := st) (rd := rd) (fun j hj => HP.out j (by rw [HM.out] at hj; omega)))
        go_wp2
        go_ret
        exact ⟨by rw [E.out]; rfl, gg.tr gW⟩

end Go.Proofs.Ytkfhmfidgdpeiaa
