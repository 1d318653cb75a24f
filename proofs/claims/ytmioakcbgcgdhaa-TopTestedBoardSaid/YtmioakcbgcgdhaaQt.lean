/- Contracts of Weigh, Strength, Cost. Contracts of Strength and Cost. -/
import Derived.Test.YtmioakcbgcgdhaaB12
namespace Go.Proofs.Ytmioakcbgcgdhaa
set_option linter.unusedVariables false
set_option linter.unusedSimpArgs false
open Go.RowKit

def weighN (ps : List Paper) (fs : List Flute) (mp mf : List Int) : Int := weightL ps fs mp mf / gcdI (weightL ps fs mp mf) (partsL fs mf)

def weighD (ps : List Paper) (fs : List Flute) (mp mf : List Int) : Int := partsL fs mf / gcdI (weightL ps fs mp mf) (partsL fs mf)

end Go.Proofs.Ytmioakcbgcgdhaa

namespace Go.Proofs.Ytmioakcbgcgdhaa
set_option linter.unusedVariables false
set_option linter.unusedSimpArgs false
open Go.RowKit

theorem call114 (args : Array Value) (W : World) : (callFunc 82 args).run Try.prog W = .ok (.enter 82 args) W := by kernel_rfl

theorem f114_any (p : Paper) (w : World) :
    Calls Try.prog 82 #[.agg #[.int .i64 p.kind, .int .i64 p.weight, .int .i64 p.tlo, .int .i64 p.thi, .int .i64 p.mlo, .int .i64 p.mhi, .int .i64 p.price, .int .i64 p.strong]] w fun e w' => e = .returned (.int .i64 p.strong) ∧ Gr w w' := by
  have gg := Gr.al w (.cells #[.int .i64 p.kind, .int .i64 p.weight, .int .i64 p.tlo, .int .i64 p.thi, .int .i64 p.mlo, .int .i64 p.mhi, .int .i64 p.price, .int .i64 p.strong] 100)
  go_enter Try.func82, Try.ntmps82
  go_wp2
  go_ret
  exact ⟨rfl, gg⟩

set_option maxRecDepth 100000 in
set_option maxHeartbeats 2000000 in
theorem strength_any (ps : List Paper) (fs : List Flute) (mp mf : List Int) (F : Fine ps fs mp mf) (pa fa ma ga : Option Addr) (pc fc mc gc m : Nat) (w : World) (hp : PRow w pa ps) (hm : MapIs w m 5 (usedL fs mp mf)) :
    Calls Try.prog 38 #[.agg #[.slice ma mp.length mc, .slice ga mf.length gc, .slice pa ps.length pc, .slice fa fs.length fc, .int .i64 (partsL fs mf), .map (some m)]] w fun e w' => e = .returned (.int .i64 (strongL ps fs mp mf)) ∧ Gr w w' := by
  have gg := Gr.al w (.cells #[.slice ma mp.length mc, .slice ga mf.length gc, .slice pa ps.length pc, .slice fa fs.length fc, .int .i64 (partsL fs mf), .map (some m)] 109)
  have hb := Box.new w [.slice ma mp.length mc, .slice ga mf.length gc, .slice pa ps.length pc, .slice fa fs.length fc, .int .i64 (partsL fs mf), .map (some m)] 109 w.heap.size rfl
  obtain ⟨p0, p1⟩ := parts_bd F
  obtain ⟨t0, t1⟩ := totals_bd F strongOf_bd
  have HF := Lib.hid F
  go_enter Try.func38, Try.ntmps38
  go_wp2
  refine wp_abs (fun W => Gr w W ∧ Box W w.heap.size [.slice ma mp.length mc, .slice ga mf.length gc, .slice pa ps.length pc, .slice fa fs.length fc, .int .i64 (partsL fs mf), .map (some m)]) ⟨gg, hb⟩ ?_
  clear gg hb
  rintro W ⟨gg, hb⟩
  have gd := Gr.dr W
  obtain ⟨d0, d1, d2, d3, d4, d5⟩ := (hb.keep gd).c6
  obtain ⟨qa, qb⟩ := quo_le t0 (by omega) p0
  have hz2 : ¬ partsL fs mf = 0 := by omega
  have hd1 : (totalL ps fs mp mf strongOf).tdiv (partsL fs mf) = totalL ps fs mp mf strongOf / partsL fs mf := Int.tdiv_eq_ediv_of_nonneg t0
  have hw1 : IntKind.i64.wrap (totalL ps fs mp mf strongOf / partsL fs mf) = totalL ps fs mp mf strongOf / partsL fs mf := IntWalk.i64_in _ (by omega)
  go_region_held3 (fun w' => w'.cell? ⟨w.heap.size, 0, none⟩ = some (.slice ma mp.length mc) ∧ w'.cell? ⟨w.heap.size, 1, none⟩ = some (.slice ga mf.length gc) ∧ w'.cell? ⟨w.heap.size, 2, none⟩ = some (.slice pa ps.length pc) ∧ w'.cell? ⟨w.heap.size, 3, none⟩ = some (.slice fa fs.length fc) ∧ w'.cell? ⟨w.heap.size, 4, none⟩ = some (.int .i64 (partsL fs mf)) ∧ w'.cell? ⟨w.heap.size, 5, none⟩ = some (.map (some m))) (first | exact ⟨d0, d1, d2, d3, d4, d5⟩ | exact ⟨e0, e1, e2, e3, e4, e5⟩ | go_keep) (first | (go_at_call 81; (refine (total0 ps fs mp mf HF.out strongOf strongOf_bd 82 _ _ _ _ _ _ _ _ _ _ call114 (fun p W _ _ => f114_any p W) (hp.grow (gg.tr gd)) (hm.keep (gg.tr gd))).mono ?_); rintro e w2 ⟨rfl, hx⟩; (obtain ⟨e0, e1, e2, e3, e4, e5⟩ := (hb.keep (gd.tr hx)).c6)))
  all_goals
    clear hz2 hd1 hw1
    go_wp2
    go_ret
    exact ⟨rfl, gg.tr (gd.tr hx)⟩

set_option maxRecDepth 100000 in
set_option maxHeartbeats 1000000 in
theorem strengthF_err (ps : List Paper) (fs : List Flute) (mp mf : List Int) (pa fa ma ga : Option Addr) (pc fc mc gc : Nat) (w : World) (hp : PRow w pa ps) (hf : FRow w fa fs) (ha : IRow w ma mp) (hg : IRow w ga mf) (c : Int) (hc : madeL ps fs mp mf = c) (h0 : (c != 0) = true) :
    Calls Try.prog 13 #[.agg #[.slice pa ps.length pc, .slice fa fs.length fc], .agg #[.slice ma mp.length mc, .slice ga mf.length gc]] w fun e w' => e = .returned (.tuple #[.int .i64 0, .int .i64 c]) ∧ Gr w w' := by
  have gg := (Gr.al w (.cells #[.slice pa ps.length pc, .slice fa fs.length fc] 31)).tr (Gr.al _ (.cells #[.slice ma mp.length mc, .slice ga mf.length gc] 35))
  have p1 := hp.grow gg
  have p2 := hf.grow gg
  have p3 := ha.grow gg
  have p4 := hg.grow gg
  have Hc := Lib.hid hc
  clear hc
  go_enter Try.func13, Try.ntmps13
  go_wp2_with (go_at_call 35; refine (made_any ps fs mp mf _ Hc.out _ _ _ _ _ _ _ _ _ p1 p2 p3 p4).mono ?_; rintro e w1 ⟨rfl, hx⟩)
  go_ret2
  exact ⟨rfl, gg.tr hx⟩

set_option maxRecDepth 100000 in
set_option maxHeartbeats 1000000 in
theorem strengthF_ok (ps : List Paper) (fs : List Flute) (mp mf : List Int) (pa fa ma ga : Option Addr) (pc fc mc gc : Nat) (w : World) (hp : PRow w pa ps) (hf : FRow w fa fs) (ha : IRow w ma mp) (hg : IRow w ga mf) (hc : madeL ps fs mp mf = 0) :
    Calls Try.prog 13 #[.agg #[.slice pa ps.length pc, .slice fa fs.length fc], .agg #[.slice ma mp.length mc, .slice ga mf.length gc]] w fun e w' => e = .returned (.tuple #[.int .i64 (strongL ps fs mp mf), .int .i64 0]) ∧ Gr w w' := by
  have gg := (Gr.al w (.cells #[.slice pa ps.length pc, .slice fa fs.length fc] 31)).tr (Gr.al _ (.cells #[.slice ma mp.length mc, .slice ga mf.length gc] 35))
  have hb := (Box.new w [.slice pa ps.length pc, .slice fa fs.length fc] 31 w.heap.size rfl).keep (Gr.al _ (.cells #[.slice ma mp.length mc, .slice ga mf.length gc] 35))
  have hc2 := Box.new (w.alloc (.cells #[.slice pa ps.length pc, .slice fa fs.length fc] 31)) [.slice ma mp.length mc, .slice ga mf.length gc] 35 (w.heap.size + 1) (by simp)
  have p1 := hp.grow gg
  have p2 := hf.grow gg
  have p3 := ha.grow gg
  have p4 := hg.grow gg
  have Hc := Lib.hid hc
  have HF := Lib.hid (fine_of_made hc)
  clear hc
  go_enter Try.func13, Try.ntmps13
  go_wp2_with fail
  refine (made_any ps fs mp mf _ Hc.out _ _ _ _ _ _ _ _ _ p1 p2 p3 p4).mono ?_
  rintro e w1 ⟨rfl, hx⟩
  obtain ⟨q0, q1⟩ := (hb.keep hx).c2
  obtain ⟨q2, q3⟩ := (hc2.keep hx).c2
  go_wp2_with fail
  refine (lay_any ps fs mp mf HF.out _ _ _ _ _ _ _ _ _ (p1.grow hx) (p2.grow hx) (p3.grow hx) (p4.grow hx)).mono ?_
  rintro e w2 ⟨m, rfl, hy, hm⟩
  go_wp2_with fail
  refine (strength_any ps fs mp mf HF.out _ _ _ _ _ _ _ _ _ _ (p1.grow (hx.tr hy)) hm).mono ?_
  rintro e w3 ⟨rfl, hz⟩
  go_wp2
  go_ret2
  exact ⟨rfl, gg.tr (hx.tr (hy.tr hz))⟩

end Go.Proofs.Ytmioakcbgcgdhaa
