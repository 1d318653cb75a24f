/- Contracts of a sheet's weight, strength, cost and moist weight. -/
import Derived.Test.YtmioakcbgcgdhaaB9
namespace Go.Proofs.Ytmioakcbgcgdhaa
set_option linter.unusedVariables false
set_option linter.unusedSimpArgs false
open Go.RowKit

def weightOf (p : Paper) : Int := p.weight

def strongOf (p : Paper) : Int := p.strong

def priceOf (p : Paper) : Int := p.weight * p.price

def moistOf (up : Bool) (p : Paper) : Int := p.weight * (1000 + endOf up p.mlo p.mhi)

theorem weightOf_bd (p : Paper) (h : goodP p = true) : 0 ≤ weightOf p ∧ weightOf p ≤ 1000000000 := by
  obtain ⟨_, h1, h2, _⟩ := goodP_iff h
  unfold weightOf; omega

theorem strongOf_bd (p : Paper) (h : goodP p = true) : 0 ≤ strongOf p ∧ strongOf p ≤ 1000000000 := by
  obtain ⟨_, _, _, _, _, _, _, _, _, _, _, h1, h2⟩ := goodP_iff h
  unfold strongOf; omega

theorem priceOf_bd (p : Paper) (h : goodP p = true) : 0 ≤ priceOf p ∧ priceOf p ≤ 1000000000 := by
  obtain ⟨_, h1, h2, _, _, _, _, _, _, h3, h4, _⟩ := goodP_iff h
  exact mul_bd (show 0 ≤ p.weight by omega) h2 h3 h4

theorem endOf_bd (up : Bool) (p : Paper) (h : goodP p = true) : 0 ≤ endOf up p.mlo p.mhi ∧ endOf up p.mlo p.mhi ≤ 200 := by
  obtain ⟨_, _, _, _, _, _, h3, h4, h5, _⟩ := goodP_iff h
  unfold endOf
  split <;> omega

theorem moistOf_bd (up : Bool) (p : Paper) (h : goodP p = true) : 0 ≤ moistOf up p ∧ moistOf up p ≤ 1000000000 := by
  obtain ⟨_, h1, h2, _⟩ := goodP_iff h
  obtain ⟨h3, h4⟩ := endOf_bd up p h
  have := mul_bd (show 0 ≤ p.weight by omega) h2 (show 0 ≤ 1000 + endOf up p.mlo p.mhi by omega) (show 1000 + endOf up p.mlo p.mhi ≤ 1200 by omega)
  unfold moistOf
  omega

def weightL (ps : List Paper) (fs : List Flute) (mp mf : List Int) : Int := totalL ps fs mp mf weightOf

def strongL (ps : List Paper) (fs : List Flute) (mp mf : List Int) : Int := totalL ps fs mp mf strongOf / partsL fs mf

def costL (ps : List Paper) (fs : List Flute) (mp mf : List Int) : Int := (totalL ps fs mp mf priceOf + 1000 * partsL fs mf - 1) / (1000 * partsL fs mf)

def moistL (up : Bool) (ps : List Paper) (fs : List Flute) (mp mf : List Int) : Int := totalL ps fs mp mf (moistOf up) / (1000 * partsL fs mf)

theorem totals_bd {ps : List Paper} {fs : List Flute} {mp mf : List Int} (F : Fine ps fs mp mf) {of : Paper → Int} (h : ∀ p, goodP p = true → 0 ≤ of p ∧ of p ≤ 1000000000) : 0 ≤ totalL ps fs mp mf of ∧ totalL ps fs mp mf of ≤ 8000000000000000000 :=
  total_bd F (by decide) h

theorem quo_le {t d : Int} (h0 : 0 ≤ t) (h1 : t ≤ 9223372036854775807) (hd : 1 ≤ d) : 0 ≤ t / d ∧ t / d ≤ 9223372036854775807 :=
  ⟨Int.ediv_nonneg h0 (by omega), Int.le_trans (Int.ediv_le_self _ h0) h1⟩

set_option maxRecDepth 100000 in
set_option maxHeartbeats 2000000 in
theorem moist_any (up : Bool) (ps : List Paper) (fs : List Flute) (mp mf : List Int) (F : Fine ps fs mp mf) (pa fa ma ga : Option Addr) (pc fc mc gc m : Nat) (w : World) (hp : PRow w pa ps) (hm : MapIs w m 5 (usedL fs mp mf)) :
    Calls Try.prog 79 #[.agg #[.slice ma mp.length mc, .slice ga mf.length gc, .slice pa ps.length pc, .slice fa fs.length fc, .int .i64 (partsL fs mf), .map (some m)], .func (.func (endFn up)) #[] #[]] w fun e w' => e = .returned (.int .i64 (moistL up ps fs mp mf)) ∧ Gr w w' := by
  have gg := (Gr.al w (.cells #[.slice ma mp.length mc, .slice ga mf.length gc, .slice pa ps.length pc, .slice fa fs.length fc, .int .i64 (partsL fs mf), .map (some m)] 109)).tr (Gr.al _ (.cells #[.func (.func (endFn up)) #[] #[]] 169))
  have hb := (Box.new w [.slice ma mp.length mc, .slice ga mf.length gc, .slice pa ps.length pc, .slice fa fs.length fc, .int .i64 (partsL fs mf), .map (some m)] 109 w.heap.size rfl).keep (Gr.al _ (.cells #[.func (.func (endFn up)) #[] #[]] 169))
  have ob := Box.new (w.alloc (.cells #[.slice ma mp.length mc, .slice ga mf.length gc, .slice pa ps.length pc, .slice fa fs.length fc, .int .i64 (partsL fs mf), .map (some m)] 109)) [.func (.func (endFn up)) #[] #[]] 169 (w.heap.size + 1) (by simp)
  obtain ⟨p0, p1⟩ := parts_bd F
  obtain ⟨t0, t1⟩ := totals_bd F (moistOf_bd up)
  have HF := Lib.hid F
  go_enter Try.func79, Try.ntmps79
  go_wp2
  refine wp_abs (fun W => Gr w W ∧ Box W w.heap.size [.slice ma mp.length mc, .slice ga mf.length gc, .slice pa ps.length pc, .slice fa fs.length fc, .int .i64 (partsL fs mf), .map (some m)] ∧ Box W (w.heap.size + 1) [.func (.func (endFn up)) #[] #[]]) ⟨gg, hb, ob⟩ ?_
  clear gg hb ob
  rintro W ⟨gg, hb, ob⟩
  have gd := Gr.dr W
  obtain ⟨d0, d1, d2, d3, d4, d5⟩ := (hb.keep gd).c6
  have hcl := (ob.keep gd).c1
  obtain ⟨qa, qb⟩ := quo_le t0 (by omega) (show 1 ≤ 1000 * partsL fs mf by omega)
  have hz2 : ¬ 1000 * partsL fs mf = 0 := by omega
  have hz3 : ¬ partsL fs mf = 0 := by omega
  have hd1 : (totalL ps fs mp mf (moistOf up)).tdiv (1000 * partsL fs mf) = totalL ps fs mp mf (moistOf up) / (1000 * partsL fs mf) := Int.tdiv_eq_ediv_of_nonneg t0
  have hw1 : IntKind.i64.wrap (totalL ps fs mp mf (moistOf up) / (1000 * partsL fs mf)) = totalL ps fs mp mf (moistOf up) / (1000 * partsL fs mf) := IntWalk.i64_in _ (by omega)
  have hw2 : IntKind.i64.wrap (1000 * partsL fs mf) = 1000 * partsL fs mf := IntWalk.i64_in _ (by omega)
  go_region_held3 (fun w' => w'.cell? ⟨w.heap.size, 0, none⟩ = some (.slice ma mp.length mc) ∧ w'.cell? ⟨w.heap.size, 1, none⟩ = some (.slice ga mf.length gc) ∧ w'.cell? ⟨w.heap.size, 2, none⟩ = some (.slice pa ps.length pc) ∧ w'.cell? ⟨w.heap.size, 3, none⟩ = some (.slice fa fs.length fc) ∧ w'.cell? ⟨w.heap.size, 4, none⟩ = some (.int .i64 (partsL fs mf)) ∧ w'.cell? ⟨w.heap.size, 5, none⟩ = some (.map (some m))) (first | exact ⟨d0, d1, d2, d3, d4, d5⟩ | exact ⟨e0, e1, e2, e3, e4, e5⟩ | go_keep) (first | (go_at_call 81; (refine (total1 ps fs mp mf HF.out (moistOf up) (moistOf_bd up) 124 (.pointer (some ⟨w.heap.size + 1, 0, none⟩)) _ _ _ _ _ _ _ _ _ _ call133 (fun p W h g => f133_any up p h _ W (g.keep hcl)) (hp.grow (gg.tr gd)) (hm.keep (gg.tr gd))).mono ?_); rintro e w2 ⟨rfl, hx⟩; (obtain ⟨e0, e1, e2, e3, e4, e5⟩ := (hb.keep (gd.tr hx)).c6)))
  all_goals
    clear hz2 hz3 hd1 hw1 hw2
    go_wp2
    go_ret
    exact ⟨rfl, gg.tr (gd.tr hx)⟩

end Go.Proofs.Ytmioakcbgcgdhaa
