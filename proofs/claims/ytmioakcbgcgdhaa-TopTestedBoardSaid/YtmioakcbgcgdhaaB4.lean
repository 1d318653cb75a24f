/- Contracts of kindAt, formed, numbered, Made. -/
import Derived.Test.YtmioakcbgcgdhaaB3
import Derived.Deep.QuietTactic
import Derived.BigQuiet
import Derived.WalkSmall
namespace Go.Proofs.Ytmioakcbgcgdhaa
set_option linter.unusedVariables false
set_option linter.unusedSimpArgs false
open Go.RowKit

def kindL (n : Int) : Int := if n % 2 = 0 then 1 else 2

theorem kindAt_any (n : Int) (hn : 0 ≤ n) (w : World) :
    Calls Try.prog 74 #[.int .i64 n] w fun e w' => e = .returned (.int .i64 (kindL n)) ∧ w' = w := by
  by_cases h : n % 2 = 0
  · have E : kindL n = 1 := by simp [kindL, h]
    rw [E]
    have h' : (n % 2 == 0) = true := by simpa using h
    clear h
    go_enter Try.func74, Try.ntmps74
    go_wp2
    go_ret
    exact ⟨rfl, rfl⟩
  · have E : kindL n = 2 := by simp [kindL, h]
    rw [E]
    have h' : (n % 2 == 0) = false := by simpa using h
    clear h
    go_enter Try.func74, Try.ntmps74
    go_wp2
    go_ret
    exact ⟨rfl, rfl⟩

def formedL (mp mf : List Int) : Bool := inB 1 2 [(mf.length : Int)] && ((mp.length : Int) == 2 * (mf.length : Int) + 1)

set_option maxHeartbeats 400000 in
theorem formed_any (mp mf : List Int) (d : Bool) (hd : formedL mp mf = d) (a f : Option Addr) (ac fc : Nat) (w : World) :
    Calls Try.prog 72 #[.agg #[.slice a mp.length ac, .slice f mf.length fc]] w fun e w' => e = .returned (.bool d) ∧ Gr w w' := by
  subst hd
  have hb := Box.new w [.slice a mp.length ac, .slice f mf.length fc] 35 w.heap.size rfl
  have gg := Gr.al w (.cells #[.slice a mp.length ac, .slice f mf.length fc] 35)
  cases c1 : inB 1 2 [(mf.length : Int)] with
  | false =>
    have E : formedL mp mf = false := by simp [formedL, c1]
    rw [E]
    go_enter Try.func72, Try.ntmps72
    go_wp2_with (go_at_call 47; refine (within_any _ _ [_] _ c1 _ _ _ (IRow.new' _ 3 [_] (by simp) _ (by simp) _ (by simp))).mono ?_; rintro e w1 ⟨rfl, hg⟩; have hg2 := Gr.tr (Gr.al _ _) hg; replace gg := gg.tr hg2; replace hb := hb.keep hg2; obtain ⟨q0, q1⟩ := hb.c2; clear hg hg2)
    go_ret
    exact ⟨rfl, gg⟩
  | true =>
    have hl : 1 ≤ mf.length ∧ mf.length ≤ 2 := by
      have := c1
      simp only [inB, in1, List.all_cons, List.all_nil, Bool.and_true, Bool.and_eq_true, decide_eq_true_eq] at this
      omega
    obtain ⟨hl1, hl2⟩ := hl
    have E : formedL mp mf = ((mp.length : Int) == 2 * (mf.length : Int) + 1) := by simp [formedL, c1]
    rw [E]
    go_enter Try.func72, Try.ntmps72
    go_wp2_with (go_at_call 47; refine (within_any _ _ [_] _ c1 _ _ _ (IRow.new' _ 3 [_] (by simp) _ (by simp) _ (by simp))).mono ?_; rintro e w1 ⟨rfl, hg⟩; have hg2 := Gr.tr (Gr.al _ _) hg; replace gg := gg.tr hg2; replace hb := hb.keep hg2; obtain ⟨q0, q1⟩ := hb.c2; clear hg hg2)
    go_ret
    exact ⟨rfl, gg⟩

def numberedL (mp mf : List Int) (np nf : Int) : Bool := inB 0 (np - 1) mp && inB 0 (nf - 1) mf

set_option maxHeartbeats 400000 in
theorem numbered_any (mp mf : List Int) (np nf : Int) (h1 : 0 ≤ np) (h2 : np ≤ 9223372036854775807) (h3 : 0 ≤ nf) (h4 : nf ≤ 9223372036854775807) (d : Bool) (hd : numberedL mp mf np nf = d) (a f : Option Addr) (ac fc : Nat) (w : World) (ha : IRow w a mp) (hf : IRow w f mf) :
    Calls Try.prog 73 #[.agg #[.slice a mp.length ac, .slice f mf.length fc], .int .i64 np, .int .i64 nf] w fun e w' => e = .returned (.bool d) ∧ Gr w w' := by
  subst hd
  have hb := Box.new w [.slice a mp.length ac, .slice f mf.length fc] 35 w.heap.size rfl
  have gg := Gr.al w (.cells #[.slice a mp.length ac, .slice f mf.length fc] 35)
  have ha1 := ha.grow gg
  have hf1 := hf.grow gg
  cases c1 : inB 0 (np - 1) mp with
  | false =>
    have E : numberedL mp mf np nf = false := by simp [numberedL, c1]
    rw [E]
    go_enter Try.func73, Try.ntmps73
    go_wp2_with (go_at_call 47; refine (within_any _ _ mp _ c1 _ _ _ ha1).mono ?_; rintro e w1 ⟨rfl, hg⟩)
    go_ret
    exact ⟨rfl, gg.tr hg⟩
  | true =>
    have E : numberedL mp mf np nf = inB 0 (nf - 1) mf := by simp [numberedL, c1]
    rw [E]
    go_enter Try.func73, Try.ntmps73
    go_wp2_with fail
    refine (within_any _ _ mp _ c1 _ _ _ ha1).mono ?_
    rintro e w1 ⟨rfl, hg⟩
    obtain ⟨q0, q1⟩ := (hb.keep hg).c2
    have hf2 := hf1.grow hg
    go_wp2_with fail
    refine (within_any _ _ mf _ rfl _ _ _ hf2).mono ?_
    rintro e w2 ⟨rfl, hg2⟩
    go_wp2
    go_ret
    exact ⟨rfl, (gg.tr hg).tr hg2⟩

end Go.Proofs.Ytmioakcbgcgdhaa
