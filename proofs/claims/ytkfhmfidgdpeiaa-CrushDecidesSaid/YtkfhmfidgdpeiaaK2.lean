/- Contracts of crush: goodBox, goodRule, goodOff, goodReadings, strength, Strength. (Made by gen_k2.py.) -/
import Derived.Test.YtkfhmfidgdpeiaaK1
import Derived.Test.YtkfhmfidgdpeiaaQa
import Derived.Deep.RegionHeld3
import Derived.Deep.CutRange
import Derived.Deep.DeepCutAuto
namespace Go.Proofs.Ytkfhmfidgdpeiaa
set_option linter.unusedVariables false
set_option linter.unusedSimpArgs false
open Go.RowKit

theorem Box.c6' {w : World} {b : Nat} {x0 x1 x2 x3 x4 x5 : Value} (h : Box w b [x0, x1, x2, x3, x4, x5]) : w.cell? ⟨b, 0, none⟩ = some x0 ∧ w.cell? ⟨b, 1, none⟩ = some x1 ∧ w.cell? ⟨b, 2, none⟩ = some x2 ∧ w.cell? ⟨b, 3, none⟩ = some x3 ∧ w.cell? ⟨b, 4, none⟩ = some x4 ∧ w.cell? ⟨b, 5, none⟩ = some x5 := ⟨h.2 0 x0 rfl, h.2 1 x1 rfl, h.2 2 x2 rfl, h.2 3 x3 rfl, h.2 4 x4 rfl, h.2 5 x5 rfl⟩

theorem Box.c4' {w : World} {b : Nat} {x0 x1 x2 x3 : Value} (h : Box w b [x0, x1, x2, x3]) : w.cell? ⟨b, 0, none⟩ = some x0 ∧ w.cell? ⟨b, 1, none⟩ = some x1 ∧ w.cell? ⟨b, 2, none⟩ = some x2 ∧ w.cell? ⟨b, 3, none⟩ = some x3 := ⟨h.2 0 x0 rfl, h.2 1 x1 rfl, h.2 2 x2 rfl, h.2 3 x3 rfl⟩

def boxOk (el eh cl ch ar ru : Int) : Bool := okSpan 0 100000 el eh && okSpan 1 10000 cl ch && inB 1 20000 [ar] && inB 1 1000 [ru]

set_option maxRecDepth 100000 in
set_option maxHeartbeats 2000000 in
theorem goodBox_any (el eh cl ch ar ru : Int) (w : World) :
    Calls Try.prog 70 #[.agg #[.int .i64 el, .int .i64 eh, .int .i64 cl, .int .i64 ch, .int .i64 ar, .int .i64 ru]] w fun e w' => e = .returned (.bool (boxOk el eh cl ch ar ru)) ∧ Gr w w' := by
  have hb := Box.new w [.int .i64 el, .int .i64 eh, .int .i64 cl, .int .i64 ch, .int .i64 ar, .int .i64 ru] 47 w.heap.size rfl
  have gg := Gr.al w (.cells #[.int .i64 el, .int .i64 eh, .int .i64 cl, .int .i64 ch, .int .i64 ar, .int .i64 ru] 47)
  cases c0 : okSpan 0 100000 el eh with
  | false =>
    have E : boxOk el eh cl ch ar ru = false := by simp [boxOk, c0]
    rw [E]
    obtain ⟨q0, q1, q2, q3, q4, q5⟩ := hb.c6'
    have tok0 : True := trivial
    have tok1 : True := trivial
    have tok2 : True := trivial
    have tok3 : True := trivial
    go_enter Try.func70, Try.ntmps70
    go_wp2_with (first | (have _t := tok0; clear tok0 _t; go_at_call 98; refine (valid_any 0 100000 el eh _ (by assumption) _ _ _ (SRow.new1 _ 45 _ _ _ (by simp))).mono ?_; rintro e w1 ⟨rfl, hg⟩; have hg2 := Gr.tr (Gr.al _ _) hg; replace gg := gg.tr hg2; replace hb := hb.keep hg2; obtain ⟨q0, q1, q2, q3, q4, q5⟩ := hb.c6'; clear hg hg2) | (have _t := tok1; clear tok1 _t; go_at_call 98; refine (valid_any 1 10000 cl ch _ (by assumption) _ _ _ (SRow.new1 _ 45 _ _ _ (by simp))).mono ?_; rintro e w1 ⟨rfl, hg⟩; have hg2 := Gr.tr (Gr.al _ _) hg; replace gg := gg.tr hg2; replace hb := hb.keep hg2; obtain ⟨q0, q1, q2, q3, q4, q5⟩ := hb.c6'; clear hg hg2) | (have _t := tok2; clear tok2 _t; go_at_call 66; refine (within_any 1 20000 [ar] _ (by assumption) _ _ _ (IRow.new' _ 3 [ar] (by simp) _ (by simp) _ (by simp))).mono ?_; rintro e w1 ⟨rfl, hg⟩; have hg2 := Gr.tr (Gr.al _ _) hg; replace gg := gg.tr hg2; replace hb := hb.keep hg2; obtain ⟨q0, q1, q2, q3, q4, q5⟩ := hb.c6'; clear hg hg2) | (have _t := tok3; clear tok3 _t; go_at_call 66; refine (within_any 1 1000 [ru] _ (by assumption) _ _ _ (IRow.new' _ 3 [ru] (by simp) _ (by simp) _ (by simp))).mono ?_; rintro e w1 ⟨rfl, hg⟩; have hg2 := Gr.tr (Gr.al _ _) hg; replace gg := gg.tr hg2; replace hb := hb.keep hg2; obtain ⟨q0, q1, q2, q3, q4, q5⟩ := hb.c6'; clear hg hg2))
    go_ret
    exact ⟨rfl, gg⟩
  | true =>
    cases c1 : okSpan 1 10000 cl ch with
    | false =>
      have E : boxOk el eh cl ch ar ru = false := by simp [boxOk, c0, c1]
      rw [E]
      obtain ⟨q0, q1, q2, q3, q4, q5⟩ := hb.c6'
      have tok0 : True := trivial
      have tok1 : True := trivial
      have tok2 : True := trivial
      have tok3 : True := trivial
      go_enter Try.func70, Try.ntmps70
      go_wp2_with (first | (have _t := tok0; clear tok0 _t; go_at_call 98; refine (valid_any 0 100000 el eh _ (by assumption) _ _ _ (SRow.new1 _ 45 _ _ _ (by simp))).mono ?_; rintro e w1 ⟨rfl, hg⟩; have hg2 := Gr.tr (Gr.al _ _) hg; replace gg := gg.tr hg2; replace hb := hb.keep hg2; obtain ⟨q0, q1, q2, q3, q4, q5⟩ := hb.c6'; clear hg hg2) | (have _t := tok1; clear tok1 _t; go_at_call 98; refine (valid_any 1 10000 cl ch _ (by assumption) _ _ _ (SRow.new1 _ 45 _ _ _ (by simp))).mono ?_; rintro e w1 ⟨rfl, hg⟩; have hg2 := Gr.tr (Gr.al _ _) hg; replace gg := gg.tr hg2; replace hb := hb.keep hg2; obtain ⟨q0, q1, q2, q3, q4, q5⟩ := hb.c6'; clear hg hg2) | (have _t := tok2; clear tok2 _t; go_at_call 66; refine (within_any 1 20000 [ar] _ (by assumption) _ _ _ (IRow.new' _ 3 [ar] (by simp) _ (by simp) _ (by simp))).mono ?_; rintro e w1 ⟨rfl, hg⟩; have hg2 := Gr.tr (Gr.al _ _) hg; replace gg := gg.tr hg2; replace hb := hb.keep hg2; obtain ⟨q0, q1, q2, q3, q4, q5⟩ := hb.c6'; clear hg hg2) | (have _t := tok3; clear tok3 _t; go_at_call 66; refine (within_any 1 1000 [ru] _ (by assumption) _ _ _ (IRow.new' _ 3 [ru] (by simp) _ (by simp) _ (by simp))).mono ?_; rintro e w1 ⟨rfl, hg⟩; have hg2 := Gr.tr (Gr.al _ _) hg; replace gg := gg.tr hg2; replace hb := hb.keep hg2; obtain ⟨q0, q1, q2, q3, q4, q5⟩ := hb.c6'; clear hg hg2))
      go_ret
      exact ⟨rfl, gg⟩
    | true =>
      cases c2 : inB 1 20000 [ar] with
      | false =>
        have E : boxOk el eh cl ch ar ru = false := by simp [boxOk, c0, c1, c2]
        rw [E]
        obtain ⟨q0, q1, q2, q3, q4, q5⟩ := hb.c6'
        have tok0 : True := trivial
        have tok1 : True := trivial
        have tok2 : True := trivial
        have tok3 : True := trivial
        go_enter Try.func70, Try.ntmps70
        go_wp2_with (first | (have _t := tok0; clear tok0 _t; go_at_call 98; refine (valid_any 0 100000 el eh _ (by assumption) _ _ _ (SRow.new1 _ 45 _ _ _ (by simp))).mono ?_; rintro e w1 ⟨rfl, hg⟩; have hg2 := Gr.tr (Gr.al _ _) hg; replace gg := gg.tr hg2; replace hb := hb.keep hg2; obtain ⟨q0, q1, q2, q3, q4, q5⟩ := hb.c6'; clear hg hg2) | (have _t := tok1; clear tok1 _t; go_at_call 98; refine (valid_any 1 10000 cl ch _ (by assumption) _ _ _ (SRow.new1 _ 45 _ _ _ (by simp))).mono ?_; rintro e w1 ⟨rfl, hg⟩; have hg2 := Gr.tr (Gr.al _ _) hg; replace gg := gg.tr hg2; replace hb := hb.keep hg2; obtain ⟨q0, q1, q2, q3, q4, q5⟩ := hb.c6'; clear hg hg2) | (have _t := tok2; clear tok2 _t; go_at_call 66; refine (within_any 1 20000 [ar] _ (by assumption) _ _ _ (IRow.new' _ 3 [ar] (by simp) _ (by simp) _ (by simp))).mono ?_; rintro e w1 ⟨rfl, hg⟩; have hg2 := Gr.tr (Gr.al _ _) hg; replace gg := gg.tr hg2; replace hb := hb.keep hg2; obtain ⟨q0, q1, q2, q3, q4, q5⟩ := hb.c6'; clear hg hg2) | (have _t := tok3; clear tok3 _t; go_at_call 66; refine (within_any 1 1000 [ru] _ (by assumption) _ _ _ (IRow.new' _ 3 [ru] (by simp) _ (by simp) _ (by simp))).mono ?_; rintro e w1 ⟨rfl, hg⟩; have hg2 := Gr.tr (Gr.al _ _) hg; replace gg := gg.tr hg2; replace hb := hb.keep hg2; obtain ⟨q0, q1, q2, q3, q4, q5⟩ := hb.c6'; clear hg hg2))
        go_ret
        exact ⟨rfl, gg⟩
      | true =>
        cases c3 : inB 1 1000 [ru] with
        | false =>
          have E : boxOk el eh cl ch ar ru = false := by simp [boxOk, c0, c1, c2, c3]
          rw [E]
          obtain ⟨q0, q1, q2, q3, q4, q5⟩ := hb.c6'
          have tok0 : True := trivial
          have tok1 : True := trivial
          have tok2 : True := trivial
          have tok3 : True := trivial
          go_enter Try.func70, Try.ntmps70
          go_wp2_with (first | (have _t := tok0; clear tok0 _t; go_at_call 98; refine (valid_any 0 100000 el eh _ (by assumption) _ _ _ (SRow.new1 _ 45 _ _ _ (by simp))).mono ?_; rintro e w1 ⟨rfl, hg⟩; have hg2 := Gr.tr (Gr.al _ _) hg; replace gg := gg.tr hg2; replace hb := hb.keep hg2; obtain ⟨q0, q1, q2, q3, q4, q5⟩ := hb.c6'; clear hg hg2) | (have _t := tok1; clear tok1 _t; go_at_call 98; refine (valid_any 1 10000 cl ch _ (by assumption) _ _ _ (SRow.new1 _ 45 _ _ _ (by simp))).mono ?_; rintro e w1 ⟨rfl, hg⟩; have hg2 := Gr.tr (Gr.al _ _) hg; replace gg := gg.tr hg2; replace hb := hb.keep hg2; obtain ⟨q0, q1, q2, q3, q4, q5⟩ := hb.c6'; clear hg hg2) | (have _t := tok2; clear tok2 _t; go_at_call 66; refine (within_any 1 20000 [ar] _ (by assumption) _ _ _ (IRow.new' _ 3 [ar] (by simp) _ (by simp) _ (by simp))).mono ?_; rintro e w1 ⟨rfl, hg⟩; have hg2 := Gr.tr (Gr.al _ _) hg; replace gg := gg.tr hg2; replace hb := hb.keep hg2; obtain ⟨q0, q1, q2, q3, q4, q5⟩ := hb.c6'; clear hg hg2) | (have _t := tok3; clear tok3 _t; go_at_call 66; refine (within_any 1 1000 [ru] _ (by assumption) _ _ _ (IRow.new' _ 3 [ru] (by simp) _ (by simp) _ (by simp))).mono ?_; rintro e w1 ⟨rfl, hg⟩; have hg2 := Gr.tr (Gr.al _ _) hg; replace gg := gg.tr hg2; replace hb := hb.keep hg2; obtain ⟨q0, q1, q2, q3, q4, q5⟩ := hb.c6'; clear hg hg2))
          go_ret
          exact ⟨rfl, gg⟩
        | true =>
          have E : boxOk el eh cl ch ar ru = true := by simp [boxOk, c0, c1, c2, c3]
          rw [E]
          obtain ⟨q0, q1, q2, q3, q4, q5⟩ := hb.c6'
          have tok0 : True := trivial
          have tok1 : True := trivial
          have tok2 : True := trivial
          have tok3 : True := trivial
          go_enter Try.func70, Try.ntmps70
          go_wp2_with (first | (have _t := tok0; clear tok0 _t; go_at_call 98; refine (valid_any 0 100000 el eh _ (by assumption) _ _ _ (SRow.new1 _ 45 _ _ _ (by simp))).mono ?_; rintro e w1 ⟨rfl, hg⟩; have hg2 := Gr.tr (Gr.al _ _) hg; replace gg := gg.tr hg2; replace hb := hb.keep hg2; obtain ⟨q0, q1, q2, q3, q4, q5⟩ := hb.c6'; clear hg hg2) | (have _t := tok1; clear tok1 _t; go_at_call 98; refine (valid_any 1 10000 cl ch _ (by assumption) _ _ _ (SRow.new1 _ 45 _ _ _ (by simp))).mono ?_; rintro e w1 ⟨rfl, hg⟩; have hg2 := Gr.tr (Gr.al _ _) hg; replace gg := gg.tr hg2; replace hb := hb.keep hg2; obtain ⟨q0, q1, q2, q3, q4, q5⟩ := hb.c6'; clear hg hg2) | (have _t := tok2; clear tok2 _t; go_at_call 66; refine (within_any 1 20000 [ar] _ (by assumption) _ _ _ (IRow.new' _ 3 [ar] (by simp) _ (by simp) _ (by simp))).mono ?_; rintro e w1 ⟨rfl, hg⟩; have hg2 := Gr.tr (Gr.al _ _) hg; replace gg := gg.tr hg2; replace hb := hb.keep hg2; obtain ⟨q0, q1, q2, q3, q4, q5⟩ := hb.c6'; clear hg hg2) | (have _t := tok3; clear tok3 _t; go_at_call 66; refine (within_any 1 1000 [ru] _ (by assumption) _ _ _ (IRow.new' _ 3 [ru] (by simp) _ (by simp) _ (by simp))).mono ?_; rintro e w1 ⟨rfl, hg⟩; have hg2 := Gr.tr (Gr.al _ _) hg; replace gg := gg.tr hg2; replace hb := hb.keep hg2; obtain ⟨q0, q1, q2, q3, q4, q5⟩ := hb.c6'; clear hg hg2))
          go_ret
          exact ⟨rfl, gg⟩

def ruleOk (te me lo ba : Int) : Bool := inB 1 20 [te] && inB 0 100000 [me, lo] && inB 0 te [ba]

set_option maxRecDepth 100000 in
set_option maxHeartbeats 2000000 in
theorem goodRule_any (te me lo ba : Int) (w : World) :
    Calls Try.prog 59 #[.agg #[.int .i64 te, .int .i64 me, .int .i64 lo, .int .i64 ba]] w fun e w' => e = .returned (.bool (ruleOk te me lo ba)) ∧ Gr w w' := by
  have hb := Box.new w [.int .i64 te, .int .i64 me, .int .i64 lo, .int .i64 ba] 23 w.heap.size rfl
  have gg := Gr.al w (.cells #[.int .i64 te, .int .i64 me, .int .i64 lo, .int .i64 ba] 23)
  cases c0 : inB 1 20 [te] with
  | false =>
    have E : ruleOk te me lo ba = false := by simp [ruleOk, c0]
    rw [E]
    obtain ⟨q0, q1, q2, q3⟩ := hb.c4'
    have tok0 : True := trivial
    have tok1 : True := trivial
    have tok2 : True := trivial
    go_enter Try.func59, Try.ntmps59
    go_wp2_with (first | (have _t := tok0; clear tok0 _t; go_at_call 66; refine (within_any 1 20 [te] _ (by assumption) _ _ _ (IRow.new' _ 3 [te] (by simp) _ (by simp) _ (by simp))).mono ?_; rintro e w1 ⟨rfl, hg⟩; have hg2 := Gr.tr (Gr.al _ _) hg; replace gg := gg.tr hg2; replace hb := hb.keep hg2; obtain ⟨q0, q1, q2, q3⟩ := hb.c4'; clear hg hg2) | (have _t := tok1; clear tok1 _t; go_at_call 66; refine (within_any 0 100000 [me, lo] _ (by assumption) _ _ _ (IRow.new' _ 3 [me, lo] (by simp) _ (by simp) _ (by simp))).mono ?_; rintro e w1 ⟨rfl, hg⟩; have hg2 := Gr.tr (Gr.al _ _) hg; replace gg := gg.tr hg2; replace hb := hb.keep hg2; obtain ⟨q0, q1, q2, q3⟩ := hb.c4'; clear hg hg2) | (have _t := tok2; clear tok2 _t; go_at_call 66; refine (within_any 0 te [ba] _ (by assumption) _ _ _ (IRow.new' _ 3 [ba] (by simp) _ (by simp) _ (by simp))).mono ?_; rintro e w1 ⟨rfl, hg⟩; have hg2 := Gr.tr (Gr.al _ _) hg; replace gg := gg.tr hg2; replace hb := hb.keep hg2; obtain ⟨q0, q1, q2, q3⟩ := hb.c4'; clear hg hg2))
    go_ret
    exact ⟨rfl, gg⟩
  | true =>
    cases c1 : inB 0 100000 [me, lo] with
    | false =>
      have E : ruleOk te me lo ba = false := by simp [ruleOk, c0, c1]
      rw [E]
      obtain ⟨q0, q1, q2, q3⟩ := hb.c4'
      have tok0 : True := trivial
      have tok1 : True := trivial
      have tok2 : True := trivial
      go_enter Try.func59, Try.ntmps59
      go_wp2_with (first | (have _t := tok0; clear tok0 _t; go_at_call 66; refine (within_any 1 20 [te] _ (by assumption) _ _ _ (IRow.new' _ 3 [te] (by simp) _ (by simp) _ (by simp))).mono ?_; rintro e w1 ⟨rfl, hg⟩; have hg2 := Gr.tr (Gr.al _ _) hg; replace gg := gg.tr hg2; replace hb := hb.keep hg2; obtain ⟨q0, q1, q2, q3⟩ := hb.c4'; clear hg hg2) | (have _t := tok1; clear tok1 _t; go_at_call 66; refine (within_any 0 100000 [me, lo] _ (by assumption) _ _ _ (IRow.new' _ 3 [me, lo] (by simp) _ (by simp) _ (by simp))).mono ?_; rintro e w1 ⟨rfl, hg⟩; have hg2 := Gr.tr (Gr.al _ _) hg; replace gg := gg.tr hg2; replace hb := hb.keep hg2; obtain ⟨q0, q1, q2, q3⟩ := hb.c4'; clear hg hg2) | (have _t := tok2; clear tok2 _t; go_at_call 66; refine (within_any 0 te [ba] _ (by assumption) _ _ _ (IRow.new' _ 3 [ba] (by simp) _ (by simp) _ (by simp))).mono ?_; rintro e w1 ⟨rfl, hg⟩; have hg2 := Gr.tr (Gr.al _ _) hg; replace gg := gg.tr hg2; replace hb := hb.keep hg2; obtain ⟨q0, q1, q2, q3⟩ := hb.c4'; clear hg hg2))
      go_ret
      exact ⟨rfl, gg⟩
    | true =>
      cases c2 : inB 0 te [ba] with
      | false =>
        have E : ruleOk te me lo ba = false := by simp [ruleOk, c0, c1, c2]
        rw [E]
        obtain ⟨q0, q1, q2, q3⟩ := hb.c4'
        have tok0 : True := trivial
        have tok1 : True := trivial
        have tok2 : True := trivial
        go_enter Try.func59, Try.ntmps59
        go_wp2_with (first | (have _t := tok0; clear tok0 _t; go_at_call 66; refine (within_any 1 20 [te] _ (by assumption) _ _ _ (IRow.new' _ 3 [te] (by simp) _ (by simp) _ (by simp))).mono ?_; rintro e w1 ⟨rfl, hg⟩; have hg2 := Gr.tr (Gr.al _ _) hg; replace gg := gg.tr hg2; replace hb := hb.keep hg2; obtain ⟨q0, q1, q2, q3⟩ := hb.c4'; clear hg hg2) | (have _t := tok1; clear tok1 _t; go_at_call 66; refine (within_any 0 100000 [me, lo] _ (by assumption) _ _ _ (IRow.new' _ 3 [me, lo] (by simp) _ (by simp) _ (by simp))).mono ?_; rintro e w1 ⟨rfl, hg⟩; have hg2 := Gr.tr (Gr.al _ _) hg; replace gg := gg.tr hg2; replace hb := hb.keep hg2; obtain ⟨q0, q1, q2, q3⟩ := hb.c4'; clear hg hg2) | (have _t := tok2; clear tok2 _t; go_at_call 66; refine (within_any 0 te [ba] _ (by assumption) _ _ _ (IRow.new' _ 3 [ba] (by simp) _ (by simp) _ (by simp))).mono ?_; rintro e w1 ⟨rfl, hg⟩; have hg2 := Gr.tr (Gr.al _ _) hg; replace gg := gg.tr hg2; replace hb := hb.keep hg2; obtain ⟨q0, q1, q2, q3⟩ := hb.c4'; clear hg hg2))
        go_ret
        exact ⟨rfl, gg⟩
      | true =>
        have E : ruleOk te me lo ba = true := by simp [ruleOk, c0, c1, c2]
        rw [E]
        obtain ⟨q0, q1, q2, q3⟩ := hb.c4'
        have tok0 : True := trivial
        have tok1 : True := trivial
        have tok2 : True := trivial
        go_enter Try.func59, Try.ntmps59
        go_wp2_with (first | (have _t := tok0; clear tok0 _t; go_at_call 66; refine (within_any 1 20 [te] _ (by assumption) _ _ _ (IRow.new' _ 3 [te] (by simp) _ (by simp) _ (by simp))).mono ?_; rintro e w1 ⟨rfl, hg⟩; have hg2 := Gr.tr (Gr.al _ _) hg; replace gg := gg.tr hg2; replace hb := hb.keep hg2; obtain ⟨q0, q1, q2, q3⟩ := hb.c4'; clear hg hg2) | (have _t := tok1; clear tok1 _t; go_at_call 66; refine (within_any 0 100000 [me, lo] _ (by assumption) _ _ _ (IRow.new' _ 3 [me, lo] (by simp) _ (by simp) _ (by simp))).mono ?_; rintro e w1 ⟨rfl, hg⟩; have hg2 := Gr.tr (Gr.al _ _) hg; replace gg := gg.tr hg2; replace hb := hb.keep hg2; obtain ⟨q0, q1, q2, q3⟩ := hb.c4'; clear hg hg2) | (have _t := tok2; clear tok2 _t; go_at_call 66; refine (within_any 0 te [ba] _ (by assumption) _ _ _ (IRow.new' _ 3 [ba] (by simp) _ (by simp) _ (by simp))).mono ?_; rintro e w1 ⟨rfl, hg⟩; have hg2 := Gr.tr (Gr.al _ _) hg; replace gg := gg.tr hg2; replace hb := hb.keep hg2; obtain ⟨q0, q1, q2, q3⟩ := hb.c4'; clear hg hg2))
        go_ret
        exact ⟨rfl, gg⟩

theorem goodOff_any (off : Int) (d : Bool) (hd : inB 0 1000 [off] = d) (w : World) :
    Calls Try.prog 60 #[.int .i64 off] w fun e w' => e = .returned (.bool d) ∧ Gr w w' := by
  go_enter Try.func60, Try.ntmps60
  go_wp2_with (go_at_call 66; refine (within_any _ _ [_] _ hd _ _ _ (IRow.new' _ 3 [_] (by simp) _ (by simp) _ (by simp))).mono ?_; rintro e w1 ⟨rfl, hg⟩)
  go_ret
  exact ⟨rfl, (Gr.al _ _).tr hg⟩

theorem goodReadings_any (l : List Int) (d : Bool) (hd : inB 0 100000 l = d) (a : Option Addr) (cap : Nat) (w : World) (hr : IRow w a l) :
    Calls Try.prog 61 #[.slice a l.length cap] w fun e w' => e = .returned (.bool d) ∧ Gr w w' := by
  go_enter Try.func61, Try.ntmps61
  go_wp2_with (go_at_call 66; refine (within_any _ _ l _ hd _ _ _ hr).mono ?_; rintro e w1 ⟨rfl, hg⟩)
  go_ret
  exact ⟨rfl, hg⟩

/-- How strong a box is with a true edge and a true caliper. -/
def strongB (ar ru edge cal : Int) : Int := edge * rootL (cal * ar) * ru / 100000

theorem rootL_small {n : Int} (h : 0 ≤ n) (h1 : n ≤ 200000000) : 0 ≤ rootL n ∧ rootL n ≤ 15000 := by
  obtain ⟨a, b, c⟩ := rootL_spec h
  refine ⟨a, ?_⟩
  rcases Int.lt_or_le 15000 (rootL n) with h2 | h2
  · have : (15001 : Int) * 15001 ≤ rootL n * rootL n := Int.mul_le_mul (by omega) (by omega) (by omega) a
    omega
  · exact h2

set_option maxRecDepth 100000 in
set_option maxHeartbeats 2000000 in
theorem kstrength_any (el eh cl ch ar ru edge cal : Int) (a0 : 1 ≤ ar) (a1 : ar ≤ 20000) (u0 : 1 ≤ ru) (u1 : ru ≤ 1000) (e0 : 0 ≤ edge) (e1 : edge ≤ 100000) (c0 : 1 ≤ cal) (c1 : cal ≤ 10000) (w : World) :
    Calls Try.prog 71 #[.agg #[.int .i64 el, .int .i64 eh, .int .i64 cl, .int .i64 ch, .int .i64 ar, .int .i64 ru], .int .i64 edge, .int .i64 cal] w fun e w' => e = .returned (.int .i64 (strongB ar ru edge cal)) ∧ Gr w w' := by
  have m0 : 1 * 1 ≤ cal * ar := Int.mul_le_mul (by omega) (by omega) (by omega) (by omega)
  have m1 : cal * ar ≤ 10000 * 20000 := Int.mul_le_mul (by omega) (by omega) (by omega) (by omega)
  have m2 : 1 ≤ cal * ar := by omega
  have m3 : cal * ar ≤ 200000000 := by omega
  obtain ⟨r0, r1⟩ := rootL_small (show 0 ≤ cal * ar by omega) m3
  have k0 : 0 ≤ edge * rootL (cal * ar) := Int.mul_nonneg e0 r0
  have k1 : edge * rootL (cal * ar) ≤ 100000 * 15000 := Int.mul_le_mul e1 r1 r0 (by omega)
  have k2 : 0 ≤ edge * rootL (cal * ar) * ru := Int.mul_nonneg k0 (by omega)
  have k3 : edge * rootL (cal * ar) * ru ≤ 1500000000 * 1000 := Int.mul_le_mul (by omega) u1 (by omega) (by omega)
  have v0 : IntKind.i64.wrap (cal * ar) = cal * ar := IntWalk.i64_in _ (by omega)
  have v1 : IntKind.i64.wrap (edge * rootL (cal * ar)) = edge * rootL (cal * ar) := IntWalk.i64_in _ (by omega)
  have v2 : IntKind.i64.wrap (edge * rootL (cal * ar) * ru) = edge * rootL (cal * ar) * ru := IntWalk.i64_in _ (by omega)
  have hd : (edge * rootL (cal * ar) * ru).tdiv 100000 = edge * rootL (cal * ar) * ru / 100000 := Int.tdiv_eq_ediv_of_nonneg k2
  have k4 : 0 ≤ edge * rootL (cal * ar) * ru / 100000 := by omega
  have k5 : edge * rootL (cal * ar) * ru / 100000 ≤ 1500000000000 := by omega
  have v3 : IntKind.i64.wrap (edge * rootL (cal * ar) * ru / 100000) = edge * rootL (cal * ar) * ru / 100000 := IntWalk.i64_in _ (by omega)
  have HE := Lib.hid (show edge * rootL (cal * ar) * ru / 100000 = strongB ar ru edge cal from rfl)
  clear m0 m1 k0 k1 k2 k3
  have hb := Box.new w [.int .i64 el, .int .i64 eh, .int .i64 cl, .int .i64 ch, .int .i64 ar, .int .i64 ru] 47 w.heap.size rfl
  have gg := Gr.al w (.cells #[.int .i64 el, .int .i64 eh, .int .i64 cl, .int .i64 ch, .int .i64 ar, .int .i64 ru] 47)
  go_enter Try.func71, Try.ntmps71
  go_upto_region 1 with fail
  refine wp_abs (fun W => Gr w W ∧ Box W w.heap.size [.int .i64 el, .int .i64 eh, .int .i64 cl, .int .i64 ch, .int .i64 ar, .int .i64 ru]) ⟨gg, hb⟩ ?_
  clear gg hb
  rintro W ⟨gg, hb⟩
  have gX := Gr.dr W
  obtain ⟨_, _, _, _, q4, q5⟩ := (hb.keep gX).c6'
  go_region_held3 (fun w' => w'.cell? ⟨w.heap.size, 4, none⟩ = some (.int .i64 ar) ∧ w'.cell? ⟨w.heap.size, 5, none⟩ = some (.int .i64 ru)) (first | exact ⟨q4, q5⟩ | go_keep) (first
    | (go_at_call 99; (refine (root_any (cal * ar) m2 m3 _).mono ?_); rintro e w2 ⟨rfl, hy⟩; replace gX := gX.tr hy; (obtain ⟨_, _, _, _, q4, q5⟩ := (hb.keep gX).c6')))
  all_goals
    clear q4 q5 v0 v1 v2 hd
    go_wp2
    go_ret
    exact ⟨ret_int HE.out, gg.tr gX⟩

end Go.Proofs.Ytkfhmfidgdpeiaa
