/- What a round of TopInsideBoard's loop reads: rows of bytes, and what an inner measure is due to be. -/
import Derived.Test.YtbohjmogpiaejaaW1
import Derived.Test.YtbohjmogpiaejaaV7
import Derived.Test.YtbohjmogpiaejaaS8
namespace Go.Proofs.Ytbohjmogpiaejaa
set_option linter.unusedVariables false
set_option linter.unusedSimpArgs false
open Go.RowKit

def CByte (n : Int) (v : World) (t : Value) : Prop := ∃ a c, t = .slice a 1 c ∧ URow v a [n]
theorem CByte.up {n : Int} {v v' : World} {t : Value} (h : CByte n v t) (g : Gr v v') : CByte n v' t := by
  obtain ⟨a, c, e, r⟩ := h
  exact ⟨a, c, e, r.grow g⟩
def CThree (td : Option Addr) (truth : List Int) (tcap : Nat) (v : World) (t : Value) : Prop := ∃ a1 c1 a2 c2, t = .agg #[.slice td truth.length tcap, .slice a1 1 c1, .slice a2 1 c2] ∧ URow v a1 [0] ∧ URow v a2 [255]
theorem CThree.up {td : Option Addr} {truth : List Int} {tcap : Nat} {v v' : World} {t : Value} (h : CThree td truth tcap v t) (g : Gr v v') : CThree td truth tcap v' t := by
  obtain ⟨a1, c1, a2, c2, e, r, q⟩ := h
  exact ⟨a1, c1, a2, c2, e, r.grow g, q.grow g⟩
def CPick (k : Nat) (v : World) (t : Value) : Prop := ∃ l a c, t = .slice a l.length c ∧ URow v a l ∧ Bytes l ∧ (k = 1 → l = [0]) ∧ (k = 2 → l = [255])
theorem CPick.up {k : Nat} {v v' : World} {t : Value} (h : CPick k v t) (g : Gr v v') : CPick k v' t := by
  obtain ⟨l, a, c, e, r, q⟩ := h
  exact ⟨l, a, c, e, r.grow g, q⟩
/-- A caliper of round k: between the ends, the least one in round 1, the greatest one in round 2. -/
def CCal (lo hi : Int) (k : Nat) (t : Value) : Prop := ∃ n, t = .int .i64 n ∧ lo ≤ n ∧ n ≤ hi ∧ (k = 1 → n = lo) ∧ (k = 2 → n = hi)
theorem bytes_one {n : Int} (h0 : 0 ≤ n) (h1 : n ≤ 255) : Bytes [n] := by
  intro x hx
  simp at hx
  subst hx
  exact ⟨h0, h1⟩
theorem CCal.mk {ps : List Paper} {fs : List Flute} {mp mf l : List Int} (F : Fine ps fs mp mf) (hl : Bytes l) {k : Nat} (h1 : k = 1 → l = [0]) (h2 : k = 2 → l = [255]) :
    CCal (thickL false ps fs mp mf) (thickL true ps fs mp mf) k (.int .i64 (calL ps fs mp mf l)) := by
  obtain ⟨a, b⟩ := cal_bd F hl
  refine ⟨_, rfl, a, b, fun e => ?_, fun e => ?_⟩
  · rw [h1 e]; exact cal_0 F
  · rw [h2 e]; exact cal_255 F

theorem okSpan_ends {lo hi a b : Int} (h : okSpan lo hi a b = true) : lo ≤ a ∧ b ≤ hi := by
  simp only [okSpan, inB, in1, List.all_cons, List.all_nil, Bool.and_true, Bool.and_eq_true, decide_eq_true_eq] at h
  omega
theorem IRow.four {w : World} {a : Option Addr} {p0 p1 p2 p3 : Int} (h : IRow w a [p0, p1, p2, p3]) : ∃ b off, a = some ⟨b, off, none⟩ ∧ w.cell? ⟨b, off, none⟩ = some (.int .i64 p0) ∧ w.cell? ⟨b, off + 1, none⟩ = some (.int .i64 p1) ∧ w.cell? ⟨b, off + 2, none⟩ = some (.int .i64 p2) ∧ w.cell? ⟨b, off + 3, none⟩ = some (.int .i64 p3) := by
  obtain ⟨b, off, rfl, _, h0⟩ := IRow.get h (j := 0) (x := p0) rfl
  refine ⟨b, off, rfl, h0, ?_, ?_, ?_⟩
  · obtain ⟨_, _, e, _, h1⟩ := IRow.get h (j := 1) (x := p1) rfl
    cases e
    exact h1
  · obtain ⟨_, _, e, _, h1⟩ := IRow.get h (j := 2) (x := p2) rfl
    cases e
    exact h1
  · obtain ⟨_, _, e, _, h1⟩ := IRow.get h (j := 3) (x := p3) rfl
    cases e
    exact h1
theorem IRow.two {w : World} {a : Option Addr} {p0 p1 : Int} (h : IRow w a [p0, p1]) : ∃ b off, a = some ⟨b, off, none⟩ ∧ w.cell? ⟨b, off, none⟩ = some (.int .i64 p0) ∧ w.cell? ⟨b, off + 1, none⟩ = some (.int .i64 p1) := by
  obtain ⟨b, off, rfl, _, h0⟩ := IRow.get h (j := 0) (x := p0) rfl
  refine ⟨b, off, rfl, h0, ?_⟩
  obtain ⟨_, _, e, _, h1⟩ := IRow.get h (j := 1) (x := p1) rfl
  cases e
  exact h1

/-- The nine measures of a box with a true caliper. -/
def dueL (hei p0 p1 p2 p3 f0 f1 g0 g1 t : Int) : List Int :=
  [1000 * p0 - t, 1000 * p1 - t, 1000 * p2 - t, 1000 * p3 - t, 1000 * hei - 2 * t, 1000 * p1 - t - 2000 * f0, 1000 * p0 - t - 2000 * f1, 1000 * p1 - t - 2000 * g0, 1000 * p0 - t - 2000 * g1]

theorem near_0 {m lo hi : Int} (h0 : lo ≤ m) (h1 : m ≤ hi) : nearL 0 m lo hi = ⟨m, m⟩ := by
  unfold nearL
  rw [show max lo (m - 0) = m by omega, show min hi (m + 0) = m by omega]

theorem due_at {tab hei slo p0 p1 p2 p3 f0 f1 g0 g1 cl ch t : Int} (G : GoodB tab hei slo [p0, p1, p2, p3] [f0, f1] [g0, g1] false) (h0 : cl ≤ t) (h1 : t ≤ ch) {i : Nat} (hi9 : i < 9) :
    ∃ d s, (dueL hei p0 p1 p2 p3 f0 f1 g0 g1 t)[i]? = some d ∧ (innerL 0 hei [p0, p1, p2, p3] [f0, f1] [g0, g1] false cl ch 9)[i]? = some s ∧
      in1 s.lo s.hi d = true ∧ (t = cl → s.hi = d) ∧ (t = ch → s.lo = d) := by
  have a0 := in_at G.gpan (k := 0) (x := p0) rfl
  have a1 := in_at G.gpan (k := 1) (x := p1) rfl
  have a2 := in_at G.gpan (k := 2) (x := p2) rfl
  have a3 := in_at G.gpan (k := 3) (x := p3) rfl
  have ah := in_one G.ghei
  have b0 := in_at G.gtop (k := 0) (x := f0) rfl
  have b1 := in_at G.gtop (k := 1) (x := f1) rfl
  have c0 := in_at G.gbot (k := 0) (x := g0) rfl
  have c1 := in_at G.gbot (k := 1) (x := g1) rfl
  have n0 := near_0 a0.1 a0.2
  have n1 := near_0 a1.1 a1.2
  have n2 := near_0 a2.1 a2.2
  have n3 := near_0 a3.1 a3.2
  have nh := near_0 ah.1 ah.2
  have m0 := near_0 b0.1 b0.2
  have m1 := near_0 b1.1 b1.2
  have k0 := near_0 c0.1 c0.2
  have k1 := near_0 c1.1 c1.2
  have hs : (innerL 0 hei [p0, p1, p2, p3] [f0, f1] [g0, g1] false cl ch 9)[i]? = some (innerAt 0 hei [p0, p1, p2, p3] [f0, f1] [g0, g1] false cl ch i) := by
    simp [innerL, hi9]
  have hc : i = 0 ∨ i = 1 ∨ i = 2 ∨ i = 3 ∨ i = 4 ∨ i = 5 ∨ i = 6 ∨ i = 7 ∨ i = 8 := by omega
  rcases hc with rfl | rfl | rfl | rfl | rfl | rfl | rfl | rfl | rfl <;>
    (refine ⟨_, _, rfl, hs, ?_⟩
     simp [innerAt, insideS, flatAt, gapS, flapS, lostL, n0, n1, n2, n3, nh, m0, m1, k0, k1, in1]
     omega)

end Go.Proofs.Ytbohjmogpiaejaa
