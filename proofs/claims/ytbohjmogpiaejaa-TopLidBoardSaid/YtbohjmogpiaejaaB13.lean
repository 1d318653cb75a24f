/- Contracts of Weigh, Strength, Cost. -/
import Derived.Test.YtbohjmogpiaejaaB12
namespace Go.Proofs.Ytbohjmogpiaejaa
set_option linter.unusedVariables false
set_option linter.unusedSimpArgs false
open Go.RowKit

def weighN (ps : List Paper) (fs : List Flute) (mp mf : List Int) : Int := weightL ps fs mp mf / gcdI (weightL ps fs mp mf) (partsL fs mf)
def weighD (ps : List Paper) (fs : List Flute) (mp mf : List Int) : Int := partsL fs mf / gcdI (weightL ps fs mp mf) (partsL fs mf)

set_option maxRecDepth 100000 in
set_option maxHeartbeats 1000000 in
theorem weigh_err (ps : List Paper) (fs : List Flute) (mp mf : List Int) (pa fa ma ga : Option Addr) (pc fc mc gc : Nat) (w : World) (hp : PRow w pa ps) (hf : FRow w fa fs) (ha : IRow w ma mp) (hg : IRow w ga mf) (c : Int) (hc : madeL ps fs mp mf = c) (h0 : (c != 0) = true) :
    Calls Try.prog 34 #[.agg #[.slice pa ps.length pc, .slice fa fs.length fc], .agg #[.slice ma mp.length mc, .slice ga mf.length gc]] w fun e w' => e = .returned (.tuple #[.agg #[.int .i64 0, .int .i64 0], .int .i64 c]) ∧ Gr w w' := by
  have gg := ((Gr.al w (.cells #[.slice pa ps.length pc, .slice fa fs.length fc] 33)).tr (Gr.al _ (.cells #[.slice ma mp.length mc, .slice ga mf.length gc] 37))).tr (Gr.al _ (.cells #[.int .i64 0, .int .i64 0] 90))
  have hb := (Box.new w [.slice pa ps.length pc, .slice fa fs.length fc] 33 w.heap.size rfl).keep ((Gr.al _ (.cells #[.slice ma mp.length mc, .slice ga mf.length gc] 37)).tr (Gr.al _ (.cells #[.int .i64 0, .int .i64 0] 90)))
  have hc2 := (Box.new (w.alloc (.cells #[.slice pa ps.length pc, .slice fa fs.length fc] 33)) [.slice ma mp.length mc, .slice ga mf.length gc] 37 (w.heap.size + 1) (by simp)).keep (Gr.al _ (.cells #[.int .i64 0, .int .i64 0] 90))
  have ob := Own.new ((w.alloc (.cells #[.slice pa ps.length pc, .slice fa fs.length fc] 33)).alloc (.cells #[.slice ma mp.length mc, .slice ga mf.length gc] 37)) [.int .i64 0, .int .i64 0] 90 (w.heap.size + 1 + 1) (by simp)
  have p1 := hp.grow gg
  have p2 := hf.grow gg
  have p3 := ha.grow gg
  have p4 := hg.grow gg
  have Hc := Lib.hid hc
  clear hc hb hc2
  go_enter Try.func34, Try.ntmps34
  go_wp2_with fail
  refine (made_any ps fs mp mf _ Hc.out _ _ _ _ _ _ _ _ _ p1 p2 p3 p4).mono ?_
  rintro e w1 ⟨rfl, hx⟩
  have ob1 := ob.keep hx
  obtain ⟨t0, t1⟩ := ob1.1.c2
  have z0 := ob1.2 0
  have z1 := ob1.2 1
  go_wp2
  refine bodyPost_ret (v := .tuple #[.agg #[.int .i64 0, .int .i64 0], .int .i64 c]) (by simp [results, Try.results34, go_sem, t0, t1]) rfl ⟨rfl, ?_⟩
  exact ((gg.tr hx).setCell (by simp; omega) _).setCell (by simp; omega) _

set_option maxRecDepth 100000 in
set_option maxHeartbeats 1000000 in
theorem weigh_ok (ps : List Paper) (fs : List Flute) (mp mf : List Int) (pa fa ma ga : Option Addr) (pc fc mc gc : Nat) (w : World) (hp : PRow w pa ps) (hf : FRow w fa fs) (ha : IRow w ma mp) (hg : IRow w ga mf) (hc : madeL ps fs mp mf = 0) :
    Calls Try.prog 34 #[.agg #[.slice pa ps.length pc, .slice fa fs.length fc], .agg #[.slice ma mp.length mc, .slice ga mf.length gc]] w fun e w' => e = .returned (.tuple #[.agg #[.int .i64 (weighN ps fs mp mf), .int .i64 (weighD ps fs mp mf)], .int .i64 0]) ∧ Gr w w' := by
  have gg := ((Gr.al w (.cells #[.slice pa ps.length pc, .slice fa fs.length fc] 33)).tr (Gr.al _ (.cells #[.slice ma mp.length mc, .slice ga mf.length gc] 37))).tr (Gr.al _ (.cells #[.int .i64 0, .int .i64 0] 90))
  have hb := (Box.new w [.slice pa ps.length pc, .slice fa fs.length fc] 33 w.heap.size rfl).keep ((Gr.al _ (.cells #[.slice ma mp.length mc, .slice ga mf.length gc] 37)).tr (Gr.al _ (.cells #[.int .i64 0, .int .i64 0] 90)))
  have hc2 := (Box.new (w.alloc (.cells #[.slice pa ps.length pc, .slice fa fs.length fc] 33)) [.slice ma mp.length mc, .slice ga mf.length gc] 37 (w.heap.size + 1) (by simp)).keep (Gr.al _ (.cells #[.int .i64 0, .int .i64 0] 90))
  have ob := Own.new ((w.alloc (.cells #[.slice pa ps.length pc, .slice fa fs.length fc] 33)).alloc (.cells #[.slice ma mp.length mc, .slice ga mf.length gc] 37)) [.int .i64 0, .int .i64 0] 90 (w.heap.size + 1 + 1) (by simp)
  have p1 := hp.grow gg
  have p2 := hf.grow gg
  have p3 := ha.grow gg
  have p4 := hg.grow gg
  have Hc := Lib.hid hc
  have HF := Lib.hid (fine_of_made hc)
  clear hc
  go_enter Try.func34, Try.ntmps34
  go_wp2_with fail
  refine (made_any ps fs mp mf _ Hc.out _ _ _ _ _ _ _ _ _ p1 p2 p3 p4).mono ?_
  rintro e w1 ⟨rfl, hx⟩
  obtain ⟨q0, q1⟩ := (hb.keep hx).c2
  obtain ⟨q2, q3⟩ := (hc2.keep hx).c2
  go_wp2_with fail
  refine (lay_any ps fs mp mf HF.out _ _ _ _ _ _ _ _ _ (p1.grow hx) (p2.grow hx) (p3.grow hx) (p4.grow hx)).mono ?_
  rintro e w2 ⟨m, rfl, hy, hm⟩
  go_wp2_with fail
  refine (weight_any ps fs mp mf HF.out _ _ _ _ _ _ _ _ _ _ (p1.grow (hx.tr hy)) hm).mono ?_
  rintro e w3 ⟨rfl, hz⟩
  have ob1 := ob.keep (hx.tr (hy.tr hz))
  obtain ⟨t0, t1⟩ := ob1.1.c2
  have z0 := ob1.2 0
  have z1 := ob1.2 1
  go_wp2
  refine bodyPost_ret (v := .tuple #[.agg #[.int .i64 (weighN ps fs mp mf), .int .i64 (weighD ps fs mp mf)], .int .i64 0]) (by simp [results, Try.results34, go_sem, t0, t1, weighN, weighD]) rfl ⟨rfl, ?_⟩
  exact ((gg.tr (hx.tr (hy.tr hz))).setCell (by simp; omega) _).setCell (by simp; omega) _

end Go.Proofs.Ytbohjmogpiaejaa
