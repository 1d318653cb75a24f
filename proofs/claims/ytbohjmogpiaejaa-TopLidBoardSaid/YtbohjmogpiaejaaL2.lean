/- A lid over its base: what follows from the play, and from the box of the base in its thinnest truth. -/
import Derived.Test.YtbohjmogpiaejaaL1
import Derived.Test.YtbohjmogpiaejaaT1
import Derived.Test.YtbohjmogpiaejaaW2
namespace Go.Proofs.Ytbohjmogpiaejaa
set_option linter.unusedVariables false
set_option linter.unusedSimpArgs false
open Go.RowKit

theorem box_good_m {v0 v1 v2 v3 v4 v5 v6 m : Int} (h0 : Byt v0) (h1 : Byt v1) (h2 : Byt v2) (h3 : Byt v3) (h4 : Byt v4) (h5 : Byt v5) (h6 : Byt v6) (m0 : 0 ≤ m) (m1 : m ≤ 39) :
    GoodB (v2 % 50) (40 + v3 + m) (v6 % 21) (bxPan v0 v1 m) (bxTop v1 v4) (bxBot v1 v4 v5) false := by
  obtain ⟨a0, b0⟩ := h0
  obtain ⟨a1, b1⟩ := h1
  obtain ⟨a2, b2⟩ := h2
  obtain ⟨a3, b3⟩ := h3
  obtain ⟨a4, b4⟩ := h4
  obtain ⟨a5, b5⟩ := h5
  obtain ⟨a6, b6⟩ := h6
  constructor
  · rfl
  · rfl
  · rfl
  all_goals first
    | (simp only [inB, in1, bxPan, bxTop, bxBot, bxLong, bxWide, bxFlap, List.all_cons, List.all_nil, Bool.and_true, Bool.and_eq_true, decide_eq_true_eq]; omega)
    | simp

theorem flat_at {tab hei slo : Int} {pan top bot : List Int} {opn : Bool} (G : GoodB tab hei slo pan top bot opn) {k : Nat} (hk : k < 4) {p : Int} (hp : pan[k]? = some p) : flatAt 0 hei pan top bot opn k = ⟨1000 * p, 1000 * p⟩ := by
  obtain ⟨a, b⟩ := in_at G.gpan hp
  unfold flatAt
  rw [if_pos hk, getD_eq hp, near_0 a b]
theorem inner_at {tab hei slo : Int} {pan top bot : List Int} {opn : Bool} (G : GoodB tab hei slo pan top bot opn) {k : Nat} (hk : k < 4) {p : Int} (hp : pan[k]? = some p) (cl ch : Int) : innerAt 0 hei pan top bot opn cl ch k = ⟨1000 * p - ch, 1000 * p - cl⟩ := by
  unfold innerAt
  rw [flat_at G hk hp]
  have e : lostL k opn = 1 := by
    unfold lostL
    rw [if_neg (by omega)]
  simp [insideS, e]
theorem inner_4 {tab hei slo : Int} {pan top bot : List Int} (G : GoodB tab hei slo pan top bot false) (cl ch : Int) : innerAt 0 hei pan top bot false cl ch 4 = ⟨1000 * hei - 2 * ch, 1000 * hei - 2 * cl⟩ := by
  obtain ⟨a, b⟩ := in_one G.ghei
  unfold innerAt flatAt
  rw [if_neg (by omega), if_pos rfl, near_0 a b]
  simp [insideS, lostL]

theorem play_at {tab hei slo : Int} {pan top bot : List Int} {opn : Bool} {tab' hei' slo' : Int} {pan' top' bot' : List Int} {opn' : Bool} (G : GoodB tab hei slo pan top bot opn) (G' : GoodB tab' hei' slo' pan' top' bot' opn') (cl ch cl' ch' : Int)
    {k : Nat} (hk : k < 4) {p p' : Int} (hp : pan[k]? = some p) (hp' : pan'[k]? = some p') : playAt hei pan top bot opn cl ch hei' pan' top' bot' opn' cl' ch' k = ⟨1000 * p - ch - 1000 * p' - ch', 1000 * p - cl - 1000 * p' - cl'⟩ := by
  unfold playAt
  rw [inner_at G hk hp, flat_at G' hk hp']
  simp [lessL, less1]

/-- The measures of a box, with one caliper. -/
theorem box_at {tab hei slo l d : Int} {top bot : List Int} (G : GoodB tab hei slo [l, d, l, d] top bot false) (c : Int) : fitsBox 0 hei [l, d, l, d] top bot false c = [1000 * l - c, 1000 * d - c, 1000 * hei - 2 * c] := by
  unfold fitsBox
  rw [inner_at G (k := 0) (by omega) rfl, inner_at G (k := 1) (by omega) rfl, inner_at G (k := 2) (by omega) rfl, inner_at G (k := 3) (by omega) rfl, inner_4 G]
  simp

theorem fits_at {t0 t1 t2 a b c : Int} (h0 : 1000 * t0 ≤ a) (h1 : 1000 * t1 ≤ b) (h2 : 1000 * t2 ≤ c) : fitsL [t0, t1, t2] [a, b, c] = true := by
  refine fits_mono h0 h1 h2 ?_
  rw [fits3]
  refine ⟨by omega, by omega, by omega⟩

theorem play_four (tab hei slo : Int) (pan top bot : List Int) (pa ta ba : Option Addr) (pc tc bc : Nat) (opn : Bool) (tab' hei' slo' : Int) (pan' top' bot' : List Int) (pa' ta' ba' : Option Addr) (pc' tc' bc' : Nat) (opn' : Bool) (cl ch cl' ch' : Int)
    (G : GoodB tab hei slo pan top bot opn) (G' : GoodB tab' hei' slo' pan' top' bot' opn') (hc : okSpan 1 10000 cl ch = true) (hc' : okSpan 1 10000 cl' ch' = true) (w : World)
    (hp : IRow w pa pan) (ht : IRow w ta top) (hb : IRow w ba bot) (hp' : IRow w pa' pan') (ht' : IRow w ta' top') (hb' : IRow w ba' bot') :
    Calls Try.prog 19 #[.agg #[.int .i64 tab, .slice pa pan.length pc, .int .i64 hei, .slice ta top.length tc, .slice ba bot.length bc, .int .i64 slo, .bool opn], .agg #[.int .i64 tab', .slice pa' pan'.length pc', .int .i64 hei', .slice ta' top'.length tc', .slice ba' bot'.length bc', .int .i64 slo', .bool opn'], .agg #[.int .i64 cl, .int .i64 ch], .agg #[.int .i64 cl', .int .i64 ch']] w fun e w' => ∃ a cap, e = .returned (.tuple #[.slice a 4 cap, .int .i64 0]) ∧ Gr w w' ∧ SRow w' a (playL hei pan top bot opn cl ch hei' pan' top' bot' opn' cl' ch' 4) :=
  (play_ok tab hei slo pan top bot pa ta ba pc tc bc opn tab' hei' slo' pan' top' bot' pa' ta' ba' pc' tc' bc' opn' cl ch cl' ch' G G' hc hc' w hp ht hb hp' ht' hb').mono fun e w' ⟨a, cap, he, hg, hr⟩ => ⟨a, cap, by rw [he]; simp [playL], hg, hr⟩

/-- Is the play of the first n panels never below 0? -/
def looseB (ps : List Sp) : Bool := ps.all fun s => decide (0 ≤ s.lo)
theorem loose_snoc (ps : List Sp) (s : Sp) : looseB (ps ++ [s]) = (looseB ps && decide (0 ≤ s.lo)) := by simp [looseB]

end Go.Proofs.Ytbohjmogpiaejaa
