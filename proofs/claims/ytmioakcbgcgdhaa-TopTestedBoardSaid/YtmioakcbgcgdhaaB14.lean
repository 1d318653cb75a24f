/- Contract of Measure. -/
import Derived.Test.YtmioakcbgcgdhaaQt
namespace Go.Proofs.Ytmioakcbgcgdhaa
set_option linter.unusedVariables false
set_option linter.unusedSimpArgs false
open Go.RowKit

set_option maxRecDepth 100000 in
set_option maxHeartbeats 1000000 in
theorem measureF_err (ps : List Paper) (fs : List Flute) (mp mf : List Int) (pa fa ma ga : Option Addr) (pc fc mc gc : Nat) (w : World) (hp : PRow w pa ps) (hf : FRow w fa fs) (ha : IRow w ma mp) (hg : IRow w ga mf) (c : Int) (hc : madeL ps fs mp mf = c) (h0 : (c != 0) = true) :
    Calls Try.prog 10 #[.agg #[.slice pa ps.length pc, .slice fa fs.length fc], .agg #[.slice ma mp.length mc, .slice ga mf.length gc]] w fun e w' => e = .returned (.tuple #[.agg #[.int .i64 0, .int .i64 0], .agg #[.int .i64 0, .int .i64 0], .int .i64 c]) ∧ Gr w w' := by
  have gg := (((Gr.al w (.cells #[.slice pa ps.length pc, .slice fa fs.length fc] 31)).tr (Gr.al _ (.cells #[.slice ma mp.length mc, .slice ga mf.length gc] 35))).tr (Gr.al _ (.cells #[.int .i64 0, .int .i64 0] 38))).tr (Gr.al _ (.cells #[.int .i64 0, .int .i64 0] 38))
  have hb := (Box.new w [.slice pa ps.length pc, .slice fa fs.length fc] 31 w.heap.size rfl).keep ((Gr.al _ (.cells #[.slice ma mp.length mc, .slice ga mf.length gc] 35)).tr ((Gr.al _ (.cells #[.int .i64 0, .int .i64 0] 38)).tr (Gr.al _ (.cells #[.int .i64 0, .int .i64 0] 38))))
  have hc2 := (Box.new (w.alloc (.cells #[.slice pa ps.length pc, .slice fa fs.length fc] 31)) [.slice ma mp.length mc, .slice ga mf.length gc] 35 (w.heap.size + 1) (by simp)).keep ((Gr.al _ (.cells #[.int .i64 0, .int .i64 0] 38)).tr (Gr.al _ (.cells #[.int .i64 0, .int .i64 0] 38)))
  have ob := (Own.new ((w.alloc (.cells #[.slice pa ps.length pc, .slice fa fs.length fc] 31)).alloc (.cells #[.slice ma mp.length mc, .slice ga mf.length gc] 35)) [.int .i64 0, .int .i64 0] 38 (w.heap.size + 1 + 1) (by simp)).keep (Gr.al _ (.cells #[.int .i64 0, .int .i64 0] 38))
  have oc := Own.new (((w.alloc (.cells #[.slice pa ps.length pc, .slice fa fs.length fc] 31)).alloc (.cells #[.slice ma mp.length mc, .slice ga mf.length gc] 35)).alloc (.cells #[.int .i64 0, .int .i64 0] 38)) [.int .i64 0, .int .i64 0] 38 (w.heap.size + 1 + 1 + 1) (by simp)
  have p1 := hp.grow gg
  have p2 := hf.grow gg
  have p3 := ha.grow gg
  have p4 := hg.grow gg
  have Hc := Lib.hid hc
  clear hc hb hc2
  go_enter Try.func10, Try.ntmps10
  go_wp2_with fail
  refine (made_any ps fs mp mf _ Hc.out _ _ _ _ _ _ _ _ _ p1 p2 p3 p4).mono ?_
  rintro e w1 ⟨rfl, hx⟩
  have ob1 := ob.keep hx
  have oc1 := oc.keep hx
  obtain ⟨t0, t1⟩ := ob1.1.c2
  obtain ⟨t2, t3⟩ := oc1.1.c2
  have z0 := ob1.2 0
  have z1 := ob1.2 1
  have z2 := oc1.2 0
  have z3 := oc1.2 1
  go_wp2
  have o1 := ((((ob1.set (i := 0) (v := .int .i64 0) (by simp)).set (i := 1) (v := .int .i64 0) (by simp)).other (b := w.heap.size + 1 + 1 + 1) (i := 0) (v := .int .i64 0) (by omega)).other (b := w.heap.size + 1 + 1 + 1) (i := 1) (v := .int .i64 0) (by omega)).1.c2
  have o2 := ((((oc1.other (b := w.heap.size + 1 + 1) (i := 0) (v := .int .i64 0) (by omega)).other (b := w.heap.size + 1 + 1) (i := 1) (v := .int .i64 0) (by omega)).set (i := 0) (v := .int .i64 0) (by simp)).set (i := 1) (v := .int .i64 0) (by simp)).1.c2
  obtain ⟨o10, o11⟩ := o1
  obtain ⟨o20, o21⟩ := o2
  refine bodyPost_ret (v := .tuple #[.agg #[.int .i64 0, .int .i64 0], .agg #[.int .i64 0, .int .i64 0], .int .i64 c]) (by simp [results, Try.results10, go_sem, o10, o11, o20, o21]) rfl ⟨rfl, ?_⟩
  exact ((((gg.tr hx).setCell (by simp; omega) _).setCell (by simp; omega) _).setCell (by simp; omega) _).setCell (by simp; omega) _

set_option maxRecDepth 100000 in
set_option maxHeartbeats 2000000 in
theorem measureF_ok (ps : List Paper) (fs : List Flute) (mp mf : List Int) (pa fa ma ga : Option Addr) (pc fc mc gc : Nat) (w : World) (hp : PRow w pa ps) (hf : FRow w fa fs) (ha : IRow w ma mp) (hg : IRow w ga mf) (hc : madeL ps fs mp mf = 0) :
    Calls Try.prog 10 #[.agg #[.slice pa ps.length pc, .slice fa fs.length fc], .agg #[.slice ma mp.length mc, .slice ga mf.length gc]] w fun e w' => e = .returned (.tuple #[.agg #[.int .i64 (moistL false ps fs mp mf), .int .i64 (moistL true ps fs mp mf)], .agg #[.int .i64 (thickL false ps fs mp mf), .int .i64 (thickL true ps fs mp mf)], .int .i64 0]) ∧ Gr w w' := by
  have gg := (((Gr.al w (.cells #[.slice pa ps.length pc, .slice fa fs.length fc] 31)).tr (Gr.al _ (.cells #[.slice ma mp.length mc, .slice ga mf.length gc] 35))).tr (Gr.al _ (.cells #[.int .i64 0, .int .i64 0] 38))).tr (Gr.al _ (.cells #[.int .i64 0, .int .i64 0] 38))
  have hb := (Box.new w [.slice pa ps.length pc, .slice fa fs.length fc] 31 w.heap.size rfl).keep ((Gr.al _ (.cells #[.slice ma mp.length mc, .slice ga mf.length gc] 35)).tr ((Gr.al _ (.cells #[.int .i64 0, .int .i64 0] 38)).tr (Gr.al _ (.cells #[.int .i64 0, .int .i64 0] 38))))
  have hc2 := (Box.new (w.alloc (.cells #[.slice pa ps.length pc, .slice fa fs.length fc] 31)) [.slice ma mp.length mc, .slice ga mf.length gc] 35 (w.heap.size + 1) (by simp)).keep ((Gr.al _ (.cells #[.int .i64 0, .int .i64 0] 38)).tr (Gr.al _ (.cells #[.int .i64 0, .int .i64 0] 38)))
  have ob := (Own.new ((w.alloc (.cells #[.slice pa ps.length pc, .slice fa fs.length fc] 31)).alloc (.cells #[.slice ma mp.length mc, .slice ga mf.length gc] 35)) [.int .i64 0, .int .i64 0] 38 (w.heap.size + 1 + 1) (by simp)).keep (Gr.al _ (.cells #[.int .i64 0, .int .i64 0] 38))
  have oc := Own.new (((w.alloc (.cells #[.slice pa ps.length pc, .slice fa fs.length fc] 31)).alloc (.cells #[.slice ma mp.length mc, .slice ga mf.length gc] 35)).alloc (.cells #[.int .i64 0, .int .i64 0] 38)) [.int .i64 0, .int .i64 0] 38 (w.heap.size + 1 + 1 + 1) (by simp)
  have p1 := hp.grow gg
  have p2 := hf.grow gg
  have p3 := ha.grow gg
  have p4 := hg.grow gg
  have Hc := Lib.hid hc
  have HF := Lib.hid (fine_of_made hc)
  clear hc
  go_enter Try.func10, Try.ntmps10
  go_wp2_with fail
  refine (made_any ps fs mp mf _ Hc.out _ _ _ _ _ _ _ _ _ p1 p2 p3 p4).mono ?_
  rintro e w1 ⟨rfl, hx⟩
  obtain ⟨q0, q1⟩ := (hb.keep hx).c2
  obtain ⟨q2, q3⟩ := (hc2.keep hx).c2
  go_wp2_with fail
  refine (lay_any ps fs mp mf HF.out _ _ _ _ _ _ _ _ _ (p1.grow hx) (p2.grow hx) (p3.grow hx) (p4.grow hx)).mono ?_
  rintro e w2 ⟨m, rfl, hy, hm⟩
  go_wp2_with fail
  refine (measure_any ps fs mp mf HF.out _ _ _ _ _ _ _ _ _ _ (p1.grow (hx.tr hy)) (p2.grow (hx.tr hy)) (p3.grow (hx.tr hy)) (p4.grow (hx.tr hy)) hm).mono ?_
  rintro e w3 ⟨rfl, hz⟩
  have ob1 := ob.keep (hx.tr (hy.tr hz))
  have oc1 := oc.keep (hx.tr (hy.tr hz))
  have gx := gg.tr (hx.tr (hy.tr hz))
  obtain ⟨t0, t1⟩ := ob1.1.c2
  obtain ⟨t2, t3⟩ := oc1.1.c2
  have z0 := ob1.2 0
  have z1 := ob1.2 1
  have z2 := oc1.2 0
  have z3 := oc1.2 1
  go_wp2
  refine wp_abs (fun W => Gr w W ∧ Own W (w.heap.size + 1 + 1) [.int .i64 (moistL false ps fs mp mf), .int .i64 (moistL true ps fs mp mf)] ∧ Own W (w.heap.size + 1 + 1 + 1) [.int .i64 (thickL false ps fs mp mf), .int .i64 (thickL true ps fs mp mf)])
    ⟨(((gx.setCell (by simp; omega) _).setCell (by simp; omega) _).setCell (by simp; omega) _).setCell (by simp; omega) _, (((ob1.set (i := 0) (by simp)).set (i := 1) (by simp)).other (by omega)).other (by omega), (((oc1.other (by omega)).other (by omega)).set (i := 0) (by simp)).set (i := 1) (by simp)⟩ ?_
  clear t0 t1 t2 t3 z0 z1 z2 z3 ob oc ob1 oc1 gx gg hb hc2 p1 p2 p3 p4 hx hy hz q0 q1 q2 q3
  rintro W6 ⟨gg, ob, oc⟩
  obtain ⟨a0, a1⟩ := ob.1.c2
  obtain ⟨b0, b1⟩ := oc.1.c2
  have y0 := ob.2 0
  have y1 := ob.2 1
  have y2 := oc.2 0
  have y3 := oc.2 1
  go_region
  go_wp2
  have o1 := ((((ob.set (i := 0) (v := .int .i64 (moistL false ps fs mp mf)) (by simp)).set (i := 1) (v := .int .i64 (moistL true ps fs mp mf)) (by simp)).other (b := w.heap.size + 1 + 1 + 1) (i := 0) (v := .int .i64 (thickL false ps fs mp mf)) (by omega)).other (b := w.heap.size + 1 + 1 + 1) (i := 1) (v := .int .i64 (thickL true ps fs mp mf)) (by omega)).1.c2
  have o2 := ((((oc.other (b := w.heap.size + 1 + 1) (i := 0) (v := .int .i64 (moistL false ps fs mp mf)) (by omega)).other (b := w.heap.size + 1 + 1) (i := 1) (v := .int .i64 (moistL true ps fs mp mf)) (by omega)).set (i := 0) (v := .int .i64 (thickL false ps fs mp mf)) (by simp)).set (i := 1) (v := .int .i64 (thickL true ps fs mp mf)) (by simp)).1.c2
  obtain ⟨o10, o11⟩ := o1
  obtain ⟨o20, o21⟩ := o2
  refine bodyPost_ret (v := .tuple #[.agg #[.int .i64 (moistL false ps fs mp mf), .int .i64 (moistL true ps fs mp mf)], .agg #[.int .i64 (thickL false ps fs mp mf), .int .i64 (thickL true ps fs mp mf)], .int .i64 0]) (by simp [results, Try.results10, go_sem, o10, o11, o20, o21]) rfl ⟨rfl, ?_⟩
  exact ((((gg.setCell (by simp; omega) _).setCell (by simp; omega) _).setCell (by simp; omega) _).setCell (by simp; omega) _).drew

end Go.Proofs.Ytmioakcbgcgdhaa
