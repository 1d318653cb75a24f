/- CrushDecides's own body. (Made by gen_o8.py.) -/
import Derived.Test.YtkfhmfidgdpeiaaQo
import Derived.Test.YtkfhmfidgdpeiaaI33
namespace Go.Proofs.Ytkfhmfidgdpeiaa
set_option linter.unusedVariables false
set_option linter.unusedSimpArgs false
open Go.RowKit

set_option maxRecDepth 100000 in
set_option maxHeartbeats 8000000 in
theorem crushDecides_any (te me lo ba off : Int) (l : List Int) (a : Option Addr) (cap : Nat) (w : World) (hr : IRow w a l) :
    Calls Try.prog 3 #[.agg #[.int .i64 te, .int .i64 me, .int .i64 lo, .int .i64 ba], .slice a l.length cap, .int .i64 off] w fun e w' => e = .returned (.bool true) ∧ Gr w w' := by
  have gg := Gr.al w (.cells #[.int .i64 te, .int .i64 me, .int .i64 lo, .int .i64 ba] 23)
  have hb := Box.new w [.int .i64 te, .int .i64 me, .int .i64 lo, .int .i64 ba] 23 w.heap.size rfl
  have hrr := hr.grow gg
  obtain ⟨q0, q1, q2, q3⟩ := hb.c4'
  by_cases h30 : 30 < l.length
  · have d0 : decide ((30 : Int) < (l.length : Int)) = true := by simp; omega
    go_enter Try.func3, Try.ntmps3
    go_wp2_with (go_at_call 16; refine (known_any _).mono ?_; rintro e w6 ⟨rfl, g6⟩)
    go_ret
    exact ⟨rfl, gg.tr g6⟩
  · have d0 : decide ((30 : Int) < (l.length : Int)) = false := by simp; omega
    obtain ⟨R, hR⟩ : ∃ R, ruleL te me lo ba off l = R := ⟨_, rfl⟩
    have HRu : Hid (∀ (a : Option Addr) (c : Nat) (W : World), IRow W a l → Calls Try.prog 18 #[.agg #[.int .i64 te, .int .i64 me, .int .i64 lo, .int .i64 ba], .slice a l.length c, .int .i64 off] W fun e w' => e = .returned (.int .i64 R) ∧ Gr W w') := Lib.hid (fun a c W h => by
      have := rule_any te me lo ba off l a c W h
      rw [hR] at this
      exact this)
    have HRr : Hid (∀ (a : Option Addr) (c : Nat) (W : World), IRow W a l → Calls Try.prog 21 #[.agg #[.int .i64 te, .int .i64 me, .int .i64 lo, .int .i64 ba], .slice a l.length c, .int .i64 off] W fun e w' => e = .returned (.int .i64 R) ∧ Gr W w') := Lib.hid (fun a c W h => refRule_any te me lo ba off l R hR a c W h)
    have HSa : Hid (∀ (a b : Option Addr) (c d : Nat) (W : World), IRow W a l → IRow W b l → Calls Try.prog 22 #[.slice a l.length c, .slice b l.length d] W fun e w' => e = .returned (.bool true) ∧ Gr W w') := Lib.hid (fun a b c d W h1 h2 => by
      have := same_any l l a b c d W h1 h2
      simpa using this)
    by_cases hR0 : R = 0
    · subst hR0
      obtain ⟨⟨x0, x1⟩, ⟨x2, x3⟩, ⟨x4, x5⟩, ⟨x6, x7⟩, x8, x9⟩ := rule_parts hR
      obtain ⟨n, rfl⟩ : ∃ n : Nat, te = (n : Int) := ⟨te.toNat, by omega⟩
      obtain ⟨S, hS⟩ : ∃ S, stateL (n : Int) me lo ba (truthsL n off l) = S := ⟨_, rfl⟩
      obtain ⟨N1, hN1⟩ : ∃ N, needL n me lo ba off l 1 100000 = N := ⟨_, rfl⟩
      obtain ⟨N2, hN2⟩ : ∃ N, needL n me lo ba off l 2 0 = N := ⟨_, rfl⟩
      have HDe : Hid (∀ (a : Option Addr) (c : Nat) (W : World), IRow W a l → (a = none → c = 0) → Calls Try.prog 19 #[.agg #[.int .i64 (n : Int), .int .i64 me, .int .i64 lo, .int .i64 ba], .slice a l.length c, .int .i64 off] W fun e w' => e = .returned (.tuple #[.int .i64 S, .int .i64 0]) ∧ Gr W w') := Lib.hid (fun a c W h hn => by
        have := decide_ok (n : Int) me lo ba off l hR a c W h hn
        rw [Int.toNat_natCast, hS] at this
        exact this)
      have HNe : Hid (∀ (a : Option Addr) (c : Nat) (W : World), IRow W a l → (a = none → c = 0) → Calls Try.prog 20 #[.agg #[.int .i64 (n : Int), .int .i64 me, .int .i64 lo, .int .i64 ba], .slice a l.length c, .int .i64 off] W fun e w' => e = .returned (.tuple #[.int .i64 N1, .int .i64 N2, .int .i64 0]) ∧ Gr W w') := Lib.hid (fun a c W h hn => by
        have := needF_ok (n : Int) me lo ba off l hR a c W h hn
        rw [Int.toNat_natCast, hN1, hN2] at this
        exact this)
      have HRd : Hid (∀ (a : Option Addr) (c : Nat) (W : World), IRow W a l → Calls Try.prog 23 #[.agg #[.int .i64 (n : Int), .int .i64 me, .int .i64 lo, .int .i64 ba], .slice a l.length c, .int .i64 off] W fun e w' => e = .returned (.int .i64 S) ∧ Gr W w') := Lib.hid (fun a c W h => by
        have := refDecide_any n me lo ba off l (by omega) (by omega) x2 x3 x6 x7 (by omega) x9 a c W h
        rw [hS] at this
        exact this)
      have HRn1 : Hid (∀ (a : Option Addr) (c : Nat) (W : World), IRow W a l → Calls Try.prog 24 #[.agg #[.int .i64 (n : Int), .int .i64 me, .int .i64 lo, .int .i64 ba], .slice a l.length c, .int .i64 off, .int .i64 100000, .int .i64 1] W fun e w' => e = .returned (.int .i64 N1) ∧ Gr W w') := Lib.hid (fun a c W h => by
        have := refNeed_any n me lo ba off l 1 100000 (by omega) (by omega) x2 x3 x6 x7 (by omega) x9 (by omega) (by omega) a c W h
        rw [hN1] at this
        exact this)
      have HRn2 : Hid (∀ (a : Option Addr) (c : Nat) (W : World), IRow W a l → Calls Try.prog 24 #[.agg #[.int .i64 (n : Int), .int .i64 me, .int .i64 lo, .int .i64 ba], .slice a l.length c, .int .i64 off, .int .i64 0, .int .i64 2] W fun e w' => e = .returned (.int .i64 N2) ∧ Gr W w') := Lib.hid (fun a c W h => by
        have := refNeed_any n me lo ba off l 2 0 (by omega) (by omega) x2 x3 x6 x7 (by omega) x9 (by omega) (by omega) a c W h
        rw [hN2] at this
        exact this)
      clear hS hN1 hN2 hR x0 x1 x2 x3 x4 x5 x6 x7 x8 x9
      have tok0 : True := trivial
      go_enter Try.func3, Try.ntmps3
      go_wp2_with (first
        | (go_at_call 17; refine (lints_gen l (by omega) a cap _ hrr).mono ?_; rintro e w1 ⟨a1, c1, rfl, r1, hn1, _, g⟩; replace gg := gg.tr g; replace hb := hb.keep g; replace hrr := hrr.grow g; clear g q0 q1 q2 q3; obtain ⟨q0, q1, q2, q3⟩ := hb.c4')
        | (go_at_call 18; refine (HRu.out a1 c1 _ r1).mono ?_; rintro e w1 ⟨rfl, g⟩; replace r1 := r1.grow g; replace gg := gg.tr g; replace hb := hb.keep g; replace hrr := hrr.grow g; clear g q0 q1 q2 q3; obtain ⟨q0, q1, q2, q3⟩ := hb.c4')
        | (go_at_call 19; refine (HDe.out a1 c1 _ r1 hn1).mono ?_; rintro e w1 ⟨rfl, g⟩; replace r1 := r1.grow g; replace gg := gg.tr g; replace hb := hb.keep g; replace hrr := hrr.grow g; clear g q0 q1 q2 q3; obtain ⟨q0, q1, q2, q3⟩ := hb.c4')
        | (go_at_call 20; refine (HNe.out a1 c1 _ r1 hn1).mono ?_; rintro e w1 ⟨rfl, g⟩; replace r1 := r1.grow g; replace gg := gg.tr g; replace hb := hb.keep g; replace hrr := hrr.grow g; clear g q0 q1 q2 q3; obtain ⟨q0, q1, q2, q3⟩ := hb.c4')
        | (go_at_call 21; refine (HRr.out a cap _ hrr).mono ?_; rintro e w1 ⟨rfl, g⟩; replace r1 := r1.grow g; replace gg := gg.tr g; replace hb := hb.keep g; replace hrr := hrr.grow g; clear g q0 q1 q2 q3; obtain ⟨q0, q1, q2, q3⟩ := hb.c4')
        | (go_at_call 22; refine (HSa.out a1 a c1 cap _ r1 hrr).mono ?_; rintro e w1 ⟨rfl, g⟩; replace r1 := r1.grow g; replace gg := gg.tr g; replace hb := hb.keep g; replace hrr := hrr.grow g; clear g q0 q1 q2 q3; obtain ⟨q0, q1, q2, q3⟩ := hb.c4')
        | (go_at_call 23; refine (HRd.out a cap _ hrr).mono ?_; rintro e w1 ⟨rfl, g⟩; replace r1 := r1.grow g; replace gg := gg.tr g; replace hb := hb.keep g; replace hrr := hrr.grow g; clear g q0 q1 q2 q3; obtain ⟨q0, q1, q2, q3⟩ := hb.c4')
        | (have _t := tok0; clear tok0 _t; go_at_call 24; refine (HRn1.out a cap _ hrr).mono ?_; rintro e w1 ⟨rfl, g⟩; replace r1 := r1.grow g; replace gg := gg.tr g; replace hb := hb.keep g; replace hrr := hrr.grow g; clear g q0 q1 q2 q3; obtain ⟨q0, q1, q2, q3⟩ := hb.c4')
        | (go_at_call 24; refine (HRn2.out a cap _ hrr).mono ?_; rintro e w1 ⟨rfl, g⟩; replace r1 := r1.grow g; replace gg := gg.tr g; replace hb := hb.keep g; replace hrr := hrr.grow g; clear g q0 q1 q2 q3; obtain ⟨q0, q1, q2, q3⟩ := hb.c4')
        | (go_at_call 16; refine (known_any _).mono ?_; rintro e w1 ⟨rfl, g⟩; replace r1 := r1.grow g; replace gg := gg.tr g; replace hb := hb.keep g; replace hrr := hrr.grow g; clear g q0 q1 q2 q3; obtain ⟨q0, q1, q2, q3⟩ := hb.c4'))
      go_ret
      exact ⟨rfl, gg⟩
    · have d1 : (R != 0) = true := by simpa using hR0
      have HDe : Hid (∀ (a : Option Addr) (c : Nat) (W : World), IRow W a l → Calls Try.prog 19 #[.agg #[.int .i64 te, .int .i64 me, .int .i64 lo, .int .i64 ba], .slice a l.length c, .int .i64 off] W fun e w' => e = .returned (.tuple #[.int .i64 0, .int .i64 R]) ∧ Gr W w') := Lib.hid (fun a c W h => decide_err te me lo ba off l R hR hR0 a c W h)
      have HNe : Hid (∀ (a : Option Addr) (c : Nat) (W : World), IRow W a l → Calls Try.prog 20 #[.agg #[.int .i64 te, .int .i64 me, .int .i64 lo, .int .i64 ba], .slice a l.length c, .int .i64 off] W fun e w' => e = .returned (.tuple #[.int .i64 0, .int .i64 0, .int .i64 R]) ∧ Gr W w') := Lib.hid (fun a c W h => need_err te me lo ba off l R hR hR0 a c W h)
      clear hR hR0
      go_enter Try.func3, Try.ntmps3
      go_wp2_with (first
        | (go_at_call 17; refine (lints_gen l (by omega) a cap _ hrr).mono ?_; rintro e w1 ⟨a1, c1, rfl, r1, hn1, _, g⟩; replace gg := gg.tr g; replace hb := hb.keep g; replace hrr := hrr.grow g; clear g q0 q1 q2 q3; obtain ⟨q0, q1, q2, q3⟩ := hb.c4')
        | (go_at_call 18; refine (HRu.out a1 c1 _ r1).mono ?_; rintro e w1 ⟨rfl, g⟩; replace r1 := r1.grow g; replace gg := gg.tr g; replace hb := hb.keep g; replace hrr := hrr.grow g; clear g q0 q1 q2 q3; obtain ⟨q0, q1, q2, q3⟩ := hb.c4')
        | (go_at_call 19; refine (HDe.out a1 c1 _ r1).mono ?_; rintro e w1 ⟨rfl, g⟩; replace r1 := r1.grow g; replace gg := gg.tr g; replace hb := hb.keep g; replace hrr := hrr.grow g; clear g q0 q1 q2 q3; obtain ⟨q0, q1, q2, q3⟩ := hb.c4')
        | (go_at_call 20; refine (HNe.out a1 c1 _ r1).mono ?_; rintro e w1 ⟨rfl, g⟩; replace r1 := r1.grow g; replace gg := gg.tr g; replace hb := hb.keep g; replace hrr := hrr.grow g; clear g q0 q1 q2 q3; obtain ⟨q0, q1, q2, q3⟩ := hb.c4')
        | (go_at_call 21; refine (HRr.out a cap _ hrr).mono ?_; rintro e w1 ⟨rfl, g⟩; replace r1 := r1.grow g; replace gg := gg.tr g; replace hb := hb.keep g; replace hrr := hrr.grow g; clear g q0 q1 q2 q3; obtain ⟨q0, q1, q2, q3⟩ := hb.c4')
        | (go_at_call 22; refine (HSa.out a1 a c1 cap _ r1 hrr).mono ?_; rintro e w1 ⟨rfl, g⟩; replace r1 := r1.grow g; replace gg := gg.tr g; replace hb := hb.keep g; replace hrr := hrr.grow g; clear g q0 q1 q2 q3; obtain ⟨q0, q1, q2, q3⟩ := hb.c4')
        | (go_at_call 16; refine (known_any _).mono ?_; rintro e w1 ⟨rfl, g⟩; replace r1 := r1.grow g; replace gg := gg.tr g; replace hb := hb.keep g; replace hrr := hrr.grow g; clear g q0 q1 q2 q3; obtain ⟨q0, q1, q2, q3⟩ := hb.c4'))
      go_ret
      exact ⟨rfl, gg⟩

end Go.Proofs.Ytkfhmfidgdpeiaa
