/- Contracts of valid, goodPaper, goodFlute, goodWish. -/
import Derived.Test.YtmioakcbgcgdhaaB1
namespace Go.Proofs.Ytmioakcbgcgdhaa
set_option linter.unusedVariables false
set_option linter.unusedSimpArgs false
open Go.RowKit

def goodP (p : Paper) : Bool :=
  (p.kind == 1 || p.kind == 2) && inB 1 1000 [p.weight] && okSpan 1 1000 p.tlo p.thi && okSpan 0 200 p.mlo p.mhi && inB 0 1000000 [p.price] && inB 0 10000 [p.strong]

set_option maxHeartbeats 2000000 in
theorem goodPaper1 (ki we tl th ml mh pr st : Int) (w : World) (k1 : (ki == 1) = true) :
    Calls Try.prog 121 #[.agg #[.int .i64 ki, .int .i64 we, .int .i64 tl, .int .i64 th, .int .i64 ml, .int .i64 mh, .int .i64 pr, .int .i64 st]] w fun e w' => e = .returned (.bool (goodP ⟨ki, we, tl, th, ml, mh, pr, st⟩)) ∧ Gr w w' := by
  have hb := Box.new w [.int .i64 ki, .int .i64 we, .int .i64 tl, .int .i64 th, .int .i64 ml, .int .i64 mh, .int .i64 pr, .int .i64 st] 100 w.heap.size rfl
  have gg := Gr.al w (.cells #[.int .i64 ki, .int .i64 we, .int .i64 tl, .int .i64 th, .int .i64 ml, .int .i64 mh, .int .i64 pr, .int .i64 st] 100)
  cases c1 : inB 1 1000 [we] with
  | false =>
    have E : goodP ⟨ki, we, tl, th, ml, mh, pr, st⟩ = false := by simp [goodP, k1, c1]
    rw [E]
    go_enter Try.func121, Try.ntmps121
    go_wp2_with (first | (go_at_call 47; refine (within_any _ _ [_] _ (by assumption) _ _ _ (IRow.new' _ 3 [_] (by simp) _ (by simp) _ (by simp))).mono ?_; rintro e w1 ⟨rfl, hg⟩; have hg2 := Gr.tr (Gr.al _ _) hg; replace gg := gg.tr hg2; replace hb := hb.keep hg2; obtain ⟨q0, q1, q2, q3, q4, q5, q6, q7⟩ := hb.c8; clear hg hg2) | (go_at_call 83; refine (valid_any _ _ _ _ _ (by assumption) _ _ _ (SRow.new1 _ 38 _ _ _ (by simp))).mono ?_; rintro e w1 ⟨rfl, hg⟩; have hg2 := Gr.tr (Gr.al _ _) hg; replace gg := gg.tr hg2; replace hb := hb.keep hg2; obtain ⟨q0, q1, q2, q3, q4, q5, q6, q7⟩ := hb.c8; clear hg hg2))
    go_ret
    exact ⟨rfl, gg⟩
  | true =>
    cases c2 : okSpan 1 1000 tl th with
    | false =>
      have E : goodP ⟨ki, we, tl, th, ml, mh, pr, st⟩ = false := by simp [goodP, k1, c1, c2]
      rw [E]
      go_enter Try.func121, Try.ntmps121
      go_wp2_with (first | (go_at_call 47; refine (within_any _ _ [_] _ (by assumption) _ _ _ (IRow.new' _ 3 [_] (by simp) _ (by simp) _ (by simp))).mono ?_; rintro e w1 ⟨rfl, hg⟩; have hg2 := Gr.tr (Gr.al _ _) hg; replace gg := gg.tr hg2; replace hb := hb.keep hg2; obtain ⟨q0, q1, q2, q3, q4, q5, q6, q7⟩ := hb.c8; clear hg hg2) | (go_at_call 83; refine (valid_any _ _ _ _ _ (by assumption) _ _ _ (SRow.new1 _ 38 _ _ _ (by simp))).mono ?_; rintro e w1 ⟨rfl, hg⟩; have hg2 := Gr.tr (Gr.al _ _) hg; replace gg := gg.tr hg2; replace hb := hb.keep hg2; obtain ⟨q0, q1, q2, q3, q4, q5, q6, q7⟩ := hb.c8; clear hg hg2))
      go_ret
      exact ⟨rfl, gg⟩
    | true =>
      cases c3 : okSpan 0 200 ml mh with
      | false =>
        have E : goodP ⟨ki, we, tl, th, ml, mh, pr, st⟩ = false := by simp [goodP, k1, c1, c2, c3]
        rw [E]
        go_enter Try.func121, Try.ntmps121
        go_wp2_with (first | (go_at_call 47; refine (within_any _ _ [_] _ (by assumption) _ _ _ (IRow.new' _ 3 [_] (by simp) _ (by simp) _ (by simp))).mono ?_; rintro e w1 ⟨rfl, hg⟩; have hg2 := Gr.tr (Gr.al _ _) hg; replace gg := gg.tr hg2; replace hb := hb.keep hg2; obtain ⟨q0, q1, q2, q3, q4, q5, q6, q7⟩ := hb.c8; clear hg hg2) | (go_at_call 83; refine (valid_any _ _ _ _ _ (by assumption) _ _ _ (SRow.new1 _ 38 _ _ _ (by simp))).mono ?_; rintro e w1 ⟨rfl, hg⟩; have hg2 := Gr.tr (Gr.al _ _) hg; replace gg := gg.tr hg2; replace hb := hb.keep hg2; obtain ⟨q0, q1, q2, q3, q4, q5, q6, q7⟩ := hb.c8; clear hg hg2))
        go_ret
        exact ⟨rfl, gg⟩
      | true =>
        cases c4 : inB 0 1000000 [pr] with
        | false =>
          have E : goodP ⟨ki, we, tl, th, ml, mh, pr, st⟩ = false := by simp [goodP, k1, c1, c2, c3, c4]
          rw [E]
          go_enter Try.func121, Try.ntmps121
          go_wp2_with (first | (go_at_call 47; refine (within_any _ _ [_] _ (by assumption) _ _ _ (IRow.new' _ 3 [_] (by simp) _ (by simp) _ (by simp))).mono ?_; rintro e w1 ⟨rfl, hg⟩; have hg2 := Gr.tr (Gr.al _ _) hg; replace gg := gg.tr hg2; replace hb := hb.keep hg2; obtain ⟨q0, q1, q2, q3, q4, q5, q6, q7⟩ := hb.c8; clear hg hg2) | (go_at_call 83; refine (valid_any _ _ _ _ _ (by assumption) _ _ _ (SRow.new1 _ 38 _ _ _ (by simp))).mono ?_; rintro e w1 ⟨rfl, hg⟩; have hg2 := Gr.tr (Gr.al _ _) hg; replace gg := gg.tr hg2; replace hb := hb.keep hg2; obtain ⟨q0, q1, q2, q3, q4, q5, q6, q7⟩ := hb.c8; clear hg hg2))
          go_ret
          exact ⟨rfl, gg⟩
        | true =>
          cases c5 : inB 0 10000 [st] with
          | false =>
            have E : goodP ⟨ki, we, tl, th, ml, mh, pr, st⟩ = false := by simp [goodP, k1, c1, c2, c3, c4, c5]
            rw [E]
            go_enter Try.func121, Try.ntmps121
            go_wp2_with (first | (go_at_call 47; refine (within_any _ _ [_] _ (by assumption) _ _ _ (IRow.new' _ 3 [_] (by simp) _ (by simp) _ (by simp))).mono ?_; rintro e w1 ⟨rfl, hg⟩; have hg2 := Gr.tr (Gr.al _ _) hg; replace gg := gg.tr hg2; replace hb := hb.keep hg2; obtain ⟨q0, q1, q2, q3, q4, q5, q6, q7⟩ := hb.c8; clear hg hg2) | (go_at_call 83; refine (valid_any _ _ _ _ _ (by assumption) _ _ _ (SRow.new1 _ 38 _ _ _ (by simp))).mono ?_; rintro e w1 ⟨rfl, hg⟩; have hg2 := Gr.tr (Gr.al _ _) hg; replace gg := gg.tr hg2; replace hb := hb.keep hg2; obtain ⟨q0, q1, q2, q3, q4, q5, q6, q7⟩ := hb.c8; clear hg hg2))
            go_ret
            exact ⟨rfl, gg⟩
          | true =>
            have E : goodP ⟨ki, we, tl, th, ml, mh, pr, st⟩ = true := by simp [goodP, k1, c1, c2, c3, c4, c5]
            rw [E]
            go_enter Try.func121, Try.ntmps121
            go_wp2_with (first | (go_at_call 47; refine (within_any _ _ [_] _ (by assumption) _ _ _ (IRow.new' _ 3 [_] (by simp) _ (by simp) _ (by simp))).mono ?_; rintro e w1 ⟨rfl, hg⟩; have hg2 := Gr.tr (Gr.al _ _) hg; replace gg := gg.tr hg2; replace hb := hb.keep hg2; obtain ⟨q0, q1, q2, q3, q4, q5, q6, q7⟩ := hb.c8; clear hg hg2) | (go_at_call 83; refine (valid_any _ _ _ _ _ (by assumption) _ _ _ (SRow.new1 _ 38 _ _ _ (by simp))).mono ?_; rintro e w1 ⟨rfl, hg⟩; have hg2 := Gr.tr (Gr.al _ _) hg; replace gg := gg.tr hg2; replace hb := hb.keep hg2; obtain ⟨q0, q1, q2, q3, q4, q5, q6, q7⟩ := hb.c8; clear hg hg2))
            go_ret
            exact ⟨rfl, gg⟩

set_option maxHeartbeats 2000000 in
theorem goodPaper2 (ki we tl th ml mh pr st : Int) (w : World) (k1 : (ki == 1) = false) (k2 : (ki == 2) = true) :
    Calls Try.prog 121 #[.agg #[.int .i64 ki, .int .i64 we, .int .i64 tl, .int .i64 th, .int .i64 ml, .int .i64 mh, .int .i64 pr, .int .i64 st]] w fun e w' => e = .returned (.bool (goodP ⟨ki, we, tl, th, ml, mh, pr, st⟩)) ∧ Gr w w' := by
  have hb := Box.new w [.int .i64 ki, .int .i64 we, .int .i64 tl, .int .i64 th, .int .i64 ml, .int .i64 mh, .int .i64 pr, .int .i64 st] 100 w.heap.size rfl
  have gg := Gr.al w (.cells #[.int .i64 ki, .int .i64 we, .int .i64 tl, .int .i64 th, .int .i64 ml, .int .i64 mh, .int .i64 pr, .int .i64 st] 100)
  cases c1 : inB 1 1000 [we] with
  | false =>
    have E : goodP ⟨ki, we, tl, th, ml, mh, pr, st⟩ = false := by simp [goodP, k1, k2, c1]
    rw [E]
    go_enter Try.func121, Try.ntmps121
    go_wp2_with (first | (go_at_call 47; refine (within_any _ _ [_] _ (by assumption) _ _ _ (IRow.new' _ 3 [_] (by simp) _ (by simp) _ (by simp))).mono ?_; rintro e w1 ⟨rfl, hg⟩; have hg2 := Gr.tr (Gr.al _ _) hg; replace gg := gg.tr hg2; replace hb := hb.keep hg2; obtain ⟨q0, q1, q2, q3, q4, q5, q6, q7⟩ := hb.c8; clear hg hg2) | (go_at_call 83; refine (valid_any _ _ _ _ _ (by assumption) _ _ _ (SRow.new1 _ 38 _ _ _ (by simp))).mono ?_; rintro e w1 ⟨rfl, hg⟩; have hg2 := Gr.tr (Gr.al _ _) hg; replace gg := gg.tr hg2; replace hb := hb.keep hg2; obtain ⟨q0, q1, q2, q3, q4, q5, q6, q7⟩ := hb.c8; clear hg hg2))
    go_ret
    exact ⟨rfl, gg⟩
  | true =>
    cases c2 : okSpan 1 1000 tl th with
    | false =>
      have E : goodP ⟨ki, we, tl, th, ml, mh, pr, st⟩ = false := by simp [goodP, k1, k2, c1, c2]
      rw [E]
      go_enter Try.func121, Try.ntmps121
      go_wp2_with (first | (go_at_call 47; refine (within_any _ _ [_] _ (by assumption) _ _ _ (IRow.new' _ 3 [_] (by simp) _ (by simp) _ (by simp))).mono ?_; rintro e w1 ⟨rfl, hg⟩; have hg2 := Gr.tr (Gr.al _ _) hg; replace gg := gg.tr hg2; replace hb := hb.keep hg2; obtain ⟨q0, q1, q2, q3, q4, q5, q6, q7⟩ := hb.c8; clear hg hg2) | (go_at_call 83; refine (valid_any _ _ _ _ _ (by assumption) _ _ _ (SRow.new1 _ 38 _ _ _ (by simp))).mono ?_; rintro e w1 ⟨rfl, hg⟩; have hg2 := Gr.tr (Gr.al _ _) hg; replace gg := gg.tr hg2; replace hb := hb.keep hg2; obtain ⟨q0, q1, q2, q3, q4, q5, q6, q7⟩ := hb.c8; clear hg hg2))
      go_ret
      exact ⟨rfl, gg⟩
    | true =>
      cases c3 : okSpan 0 200 ml mh with
      | false =>
        have E : goodP ⟨ki, we, tl, th, ml, mh, pr, st⟩ = false := by simp [goodP, k1, k2, c1, c2, c3]
        rw [E]
        go_enter Try.func121, Try.ntmps121
        go_wp2_with (first | (go_at_call 47; refine (within_any _ _ [_] _ (by assumption) _ _ _ (IRow.new' _ 3 [_] (by simp) _ (by simp) _ (by simp))).mono ?_; rintro e w1 ⟨rfl, hg⟩; have hg2 := Gr.tr (Gr.al _ _) hg; replace gg := gg.tr hg2; replace hb := hb.keep hg2; obtain ⟨q0, q1, q2, q3, q4, q5, q6, q7⟩ := hb.c8; clear hg hg2) | (go_at_call 83; refine (valid_any _ _ _ _ _ (by assumption) _ _ _ (SRow.new1 _ 38 _ _ _ (by simp))).mono ?_; rintro e w1 ⟨rfl, hg⟩; have hg2 := Gr.tr (Gr.al _ _) hg; replace gg := gg.tr hg2; replace hb := hb.keep hg2; obtain ⟨q0, q1, q2, q3, q4, q5, q6, q7⟩ := hb.c8; clear hg hg2))
        go_ret
        exact ⟨rfl, gg⟩
      | true =>
        cases c4 : inB 0 1000000 [pr] with
        | false =>
          have E : goodP ⟨ki, we, tl, th, ml, mh, pr, st⟩ = false := by simp [goodP, k1, k2, c1, c2, c3, c4]
          rw [E]
          go_enter Try.func121, Try.ntmps121
          go_wp2_with (first | (go_at_call 47; refine (within_any _ _ [_] _ (by assumption) _ _ _ (IRow.new' _ 3 [_] (by simp) _ (by simp) _ (by simp))).mono ?_; rintro e w1 ⟨rfl, hg⟩; have hg2 := Gr.tr (Gr.al _ _) hg; replace gg := gg.tr hg2; replace hb := hb.keep hg2; obtain ⟨q0, q1, q2, q3, q4, q5, q6, q7⟩ := hb.c8; clear hg hg2) | (go_at_call 83; refine (valid_any _ _ _ _ _ (by assumption) _ _ _ (SRow.new1 _ 38 _ _ _ (by simp))).mono ?_; rintro e w1 ⟨rfl, hg⟩; have hg2 := Gr.tr (Gr.al _ _) hg; replace gg := gg.tr hg2; replace hb := hb.keep hg2; obtain ⟨q0, q1, q2, q3, q4, q5, q6, q7⟩ := hb.c8; clear hg hg2))
          go_ret
          exact ⟨rfl, gg⟩
        | true =>
          cases c5 : inB 0 10000 [st] with
          | false =>
            have E : goodP ⟨ki, we, tl, th, ml, mh, pr, st⟩ = false := by simp [goodP, k1, k2, c1, c2, c3, c4, c5]
            rw [E]
            go_enter Try.func121, Try.ntmps121
            go_wp2_with (first | (go_at_call 47; refine (within_any _ _ [_] _ (by assumption) _ _ _ (IRow.new' _ 3 [_] (by simp) _ (by simp) _ (by simp))).mono ?_; rintro e w1 ⟨rfl, hg⟩; have hg2 := Gr.tr (Gr.al _ _) hg; replace gg := gg.tr hg2; replace hb := hb.keep hg2; obtain ⟨q0, q1, q2, q3, q4, q5, q6, q7⟩ := hb.c8; clear hg hg2) | (go_at_call 83; refine (valid_any _ _ _ _ _ (by assumption) _ _ _ (SRow.new1 _ 38 _ _ _ (by simp))).mono ?_; rintro e w1 ⟨rfl, hg⟩; have hg2 := Gr.tr (Gr.al _ _) hg; replace gg := gg.tr hg2; replace hb := hb.keep hg2; obtain ⟨q0, q1, q2, q3, q4, q5, q6, q7⟩ := hb.c8; clear hg hg2))
            go_ret
            exact ⟨rfl, gg⟩
          | true =>
            have E : goodP ⟨ki, we, tl, th, ml, mh, pr, st⟩ = true := by simp [goodP, k1, k2, c1, c2, c3, c4, c5]
            rw [E]
            go_enter Try.func121, Try.ntmps121
            go_wp2_with (first | (go_at_call 47; refine (within_any _ _ [_] _ (by assumption) _ _ _ (IRow.new' _ 3 [_] (by simp) _ (by simp) _ (by simp))).mono ?_; rintro e w1 ⟨rfl, hg⟩; have hg2 := Gr.tr (Gr.al _ _) hg; replace gg := gg.tr hg2; replace hb := hb.keep hg2; obtain ⟨q0, q1, q2, q3, q4, q5, q6, q7⟩ := hb.c8; clear hg hg2) | (go_at_call 83; refine (valid_any _ _ _ _ _ (by assumption) _ _ _ (SRow.new1 _ 38 _ _ _ (by simp))).mono ?_; rintro e w1 ⟨rfl, hg⟩; have hg2 := Gr.tr (Gr.al _ _) hg; replace gg := gg.tr hg2; replace hb := hb.keep hg2; obtain ⟨q0, q1, q2, q3, q4, q5, q6, q7⟩ := hb.c8; clear hg hg2))
            go_ret
            exact ⟨rfl, gg⟩

set_option maxHeartbeats 2000000 in
theorem goodPaper3 (ki we tl th ml mh pr st : Int) (w : World) (k1 : (ki == 1) = false) (k2 : (ki == 2) = false) :
    Calls Try.prog 121 #[.agg #[.int .i64 ki, .int .i64 we, .int .i64 tl, .int .i64 th, .int .i64 ml, .int .i64 mh, .int .i64 pr, .int .i64 st]] w fun e w' => e = .returned (.bool (goodP ⟨ki, we, tl, th, ml, mh, pr, st⟩)) ∧ Gr w w' := by
  have hb := Box.new w [.int .i64 ki, .int .i64 we, .int .i64 tl, .int .i64 th, .int .i64 ml, .int .i64 mh, .int .i64 pr, .int .i64 st] 100 w.heap.size rfl
  have gg := Gr.al w (.cells #[.int .i64 ki, .int .i64 we, .int .i64 tl, .int .i64 th, .int .i64 ml, .int .i64 mh, .int .i64 pr, .int .i64 st] 100)
  have E : goodP ⟨ki, we, tl, th, ml, mh, pr, st⟩ = false := by simp [goodP, k1, k2]
  rw [E]
  go_enter Try.func121, Try.ntmps121
  go_wp2
  go_ret
  exact ⟨rfl, gg⟩

theorem goodPaper_any (p : Paper) (w : World) :
    Calls Try.prog 121 #[.agg #[.int .i64 p.kind, .int .i64 p.weight, .int .i64 p.tlo, .int .i64 p.thi, .int .i64 p.mlo, .int .i64 p.mhi, .int .i64 p.price, .int .i64 p.strong]] w fun e w' => e = .returned (.bool (goodP p)) ∧ Gr w w' := by
  obtain ⟨ki, we, tl, th, ml, mh, pr, st⟩ := p
  cases k1 : (ki == 1) with
  | true => exact goodPaper1 ki we tl th ml mh pr st w k1
  | false =>
    cases k2 : (ki == 2) with
    | true => exact goodPaper2 ki we tl th ml mh pr st w k1 k2
    | false => exact goodPaper3 ki we tl th ml mh pr st w k1 k2

def goodF (f : Flute) : Bool := inB 1000 10000 [f.pitch] && inB f.pitch (2 * f.pitch) [f.draw] && okSpan 1 10000 f.hlo f.hhi

set_option maxHeartbeats 1000000 in
theorem goodFlute_of (pi dr hl hh : Int) (w : World) :
    Calls Try.prog 123 #[.agg #[.int .i64 pi, .int .i64 dr, .int .i64 hl, .int .i64 hh]] w fun e w' => e = .returned (.bool (goodF ⟨pi, dr, hl, hh⟩)) ∧ Gr w w' := by
  have hb := Box.new w [.int .i64 pi, .int .i64 dr, .int .i64 hl, .int .i64 hh] 103 w.heap.size rfl
  have gg := Gr.al w (.cells #[.int .i64 pi, .int .i64 dr, .int .i64 hl, .int .i64 hh] 103)
  cases c1 : inB 1000 10000 [pi] with
  | false =>
    have E : goodF ⟨pi, dr, hl, hh⟩ = false := by simp [goodF, c1]
    rw [E]
    go_enter Try.func123, Try.ntmps123
    go_wp2_with (first | (go_at_call 47; refine (within_any _ _ [_] _ (by assumption) _ _ _ (IRow.new' _ 3 [_] (by simp) _ (by simp) _ (by simp))).mono ?_; rintro e w1 ⟨rfl, hg⟩; have hg2 := Gr.tr (Gr.al _ _) hg; replace gg := gg.tr hg2; replace hb := hb.keep hg2; obtain ⟨q0, q1, q2, q3⟩ := hb.c4; clear hg hg2) | (go_at_call 83; refine (valid_any _ _ _ _ _ (by assumption) _ _ _ (SRow.new1 _ 38 _ _ _ (by simp))).mono ?_; rintro e w1 ⟨rfl, hg⟩; have hg2 := Gr.tr (Gr.al _ _) hg; replace gg := gg.tr hg2; replace hb := hb.keep hg2; obtain ⟨q0, q1, q2, q3⟩ := hb.c4; clear hg hg2))
    go_ret
    exact ⟨rfl, gg⟩
  | true =>
    have hpi : 1000 ≤ pi ∧ pi ≤ 10000 := by simpa [inB, in1] using c1
    obtain ⟨hp1, hp2⟩ := hpi
    cases c2 : inB pi (2 * pi) [dr] with
    | false =>
      have E : goodF ⟨pi, dr, hl, hh⟩ = false := by simp [goodF, c1, c2]
      rw [E]
      go_enter Try.func123, Try.ntmps123
      go_wp2_with (first | (go_at_call 47; refine (within_any _ _ [_] _ (by assumption) _ _ _ (IRow.new' _ 3 [_] (by simp) _ (by simp) _ (by simp))).mono ?_; rintro e w1 ⟨rfl, hg⟩; have hg2 := Gr.tr (Gr.al _ _) hg; replace gg := gg.tr hg2; replace hb := hb.keep hg2; obtain ⟨q0, q1, q2, q3⟩ := hb.c4; clear hg hg2) | (go_at_call 83; refine (valid_any _ _ _ _ _ (by assumption) _ _ _ (SRow.new1 _ 38 _ _ _ (by simp))).mono ?_; rintro e w1 ⟨rfl, hg⟩; have hg2 := Gr.tr (Gr.al _ _) hg; replace gg := gg.tr hg2; replace hb := hb.keep hg2; obtain ⟨q0, q1, q2, q3⟩ := hb.c4; clear hg hg2))
      go_ret
      exact ⟨rfl, gg⟩
    | true =>
      cases c3 : okSpan 1 10000 hl hh with
      | false =>
        have E : goodF ⟨pi, dr, hl, hh⟩ = false := by simp [goodF, c1, c2, c3]
        rw [E]
        go_enter Try.func123, Try.ntmps123
        go_wp2_with (first | (go_at_call 47; refine (within_any _ _ [_] _ (by assumption) _ _ _ (IRow.new' _ 3 [_] (by simp) _ (by simp) _ (by simp))).mono ?_; rintro e w1 ⟨rfl, hg⟩; have hg2 := Gr.tr (Gr.al _ _) hg; replace gg := gg.tr hg2; replace hb := hb.keep hg2; obtain ⟨q0, q1, q2, q3⟩ := hb.c4; clear hg hg2) | (go_at_call 83; refine (valid_any _ _ _ _ _ (by assumption) _ _ _ (SRow.new1 _ 38 _ _ _ (by simp))).mono ?_; rintro e w1 ⟨rfl, hg⟩; have hg2 := Gr.tr (Gr.al _ _) hg; replace gg := gg.tr hg2; replace hb := hb.keep hg2; obtain ⟨q0, q1, q2, q3⟩ := hb.c4; clear hg hg2))
        go_ret
        exact ⟨rfl, gg⟩
      | true =>
        have E : goodF ⟨pi, dr, hl, hh⟩ = true := by simp [goodF, c1, c2, c3]
        rw [E]
        go_enter Try.func123, Try.ntmps123
        go_wp2_with (first | (go_at_call 47; refine (within_any _ _ [_] _ (by assumption) _ _ _ (IRow.new' _ 3 [_] (by simp) _ (by simp) _ (by simp))).mono ?_; rintro e w1 ⟨rfl, hg⟩; have hg2 := Gr.tr (Gr.al _ _) hg; replace gg := gg.tr hg2; replace hb := hb.keep hg2; obtain ⟨q0, q1, q2, q3⟩ := hb.c4; clear hg hg2) | (go_at_call 83; refine (valid_any _ _ _ _ _ (by assumption) _ _ _ (SRow.new1 _ 38 _ _ _ (by simp))).mono ?_; rintro e w1 ⟨rfl, hg⟩; have hg2 := Gr.tr (Gr.al _ _) hg; replace gg := gg.tr hg2; replace hb := hb.keep hg2; obtain ⟨q0, q1, q2, q3⟩ := hb.c4; clear hg hg2))
        go_ret
        exact ⟨rfl, gg⟩

theorem goodFlute_any (f : Flute) (w : World) :
    Calls Try.prog 123 #[.agg #[.int .i64 f.pitch, .int .i64 f.draw, .int .i64 f.hlo, .int .i64 f.hhi]] w fun e w' => e = .returned (.bool (goodF f)) ∧ Gr w w' :=
  goodFlute_of f.pitch f.draw f.hlo f.hhi w

end Go.Proofs.Ytmioakcbgcgdhaa
