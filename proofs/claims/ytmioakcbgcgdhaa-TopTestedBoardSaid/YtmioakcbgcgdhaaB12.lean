/- Contract of a sheet's measure. -/
import Derived.Test.YtmioakcbgcgdhaaB11
namespace Go.Proofs.Ytmioakcbgcgdhaa
set_option linter.unusedVariables false
set_option linter.unusedSimpArgs false
open Go.RowKit

set_option maxRecDepth 100000 in
set_option maxHeartbeats 4000000 in
theorem measure_any (ps : List Paper) (fs : List Flute) (mp mf : List Int) (F : Fine ps fs mp mf) (pa fa ma ga : Option Addr) (pc fc mc gc m : Nat) (w : World) (hp : PRow w pa ps) (hf : FRow w fa fs) (ha : IRow w ma mp) (hg : IRow w ga mf) (hm : MapIs w m 5 (usedL fs mp mf)) :
    Calls Try.prog 37 #[.agg #[.slice ma mp.length mc, .slice ga mf.length gc, .slice pa ps.length pc, .slice fa fs.length fc, .int .i64 (partsL fs mf), .map (some m)]] w fun e w' => e = .returned (.tuple #[.agg #[.int .i64 (moistL false ps fs mp mf), .int .i64 (moistL true ps fs mp mf)], .agg #[.int .i64 (thickL false ps fs mp mf), .int .i64 (thickL true ps fs mp mf)]]) ∧ Gr w w' := by
  have gg := ((Gr.al w (.cells #[.slice ma mp.length mc, .slice ga mf.length gc, .slice pa ps.length pc, .slice fa fs.length fc, .int .i64 (partsL fs mf), .map (some m)] 109)).tr (Gr.al _ (.cells #[.int .i64 0, .int .i64 0] 38))).tr (Gr.al _ (.cells #[.int .i64 0, .int .i64 0] 38))
  have hb := (Own.new w [.slice ma mp.length mc, .slice ga mf.length gc, .slice pa ps.length pc, .slice fa fs.length fc, .int .i64 (partsL fs mf), .map (some m)] 109 w.heap.size rfl).keep ((Gr.al _ (.cells #[.int .i64 0, .int .i64 0] 38)).tr (Gr.al _ (.cells #[.int .i64 0, .int .i64 0] 38)))
  have ob := (Own.new (w.alloc (.cells #[.slice ma mp.length mc, .slice ga mf.length gc, .slice pa ps.length pc, .slice fa fs.length fc, .int .i64 (partsL fs mf), .map (some m)] 109)) [.int .i64 0, .int .i64 0] 38 (w.heap.size + 1) (by simp)).keep (Gr.al _ (.cells #[.int .i64 0, .int .i64 0] 38))
  have oc := Own.new ((w.alloc (.cells #[.slice ma mp.length mc, .slice ga mf.length gc, .slice pa ps.length pc, .slice fa fs.length fc, .int .i64 (partsL fs mf), .map (some m)] 109)).alloc (.cells #[.int .i64 0, .int .i64 0] 38)) [.int .i64 0, .int .i64 0] 38 (w.heap.size + 1 + 1) (by simp)
  have HF := Lib.hid F
  go_enter Try.func37, Try.ntmps37
  go_wp2
  refine wp_abs (fun W => Gr w W ∧ Own W w.heap.size [.slice ma mp.length mc, .slice ga mf.length gc, .slice pa ps.length pc, .slice fa fs.length fc, .int .i64 (partsL fs mf), .map (some m)] ∧ Own W (w.heap.size + 1) [.int .i64 0, .int .i64 0] ∧ Own W (w.heap.size + 1 + 1) [.int .i64 0, .int .i64 0]) ⟨gg, hb, ob, oc⟩ ?_
  clear gg hb ob oc
  rintro W ⟨gg, hb, ob, oc⟩
  have gd := Gr.dr W
  obtain ⟨d0, d1, d2, d3, d4, d5⟩ := (hb.keep gd).1.c6
  have tok1 : True := trivial
  go_region_held3 (fun w' => w'.cell? ⟨w.heap.size, 0, none⟩ = some (.slice ma mp.length mc) ∧ w'.cell? ⟨w.heap.size, 1, none⟩ = some (.slice ga mf.length gc) ∧ w'.cell? ⟨w.heap.size, 2, none⟩ = some (.slice pa ps.length pc) ∧ w'.cell? ⟨w.heap.size, 3, none⟩ = some (.slice fa fs.length fc) ∧ w'.cell? ⟨w.heap.size, 4, none⟩ = some (.int .i64 (partsL fs mf)) ∧ w'.cell? ⟨w.heap.size, 5, none⟩ = some (.map (some m))) (first | exact ⟨d0, d1, d2, d3, d4, d5⟩ | exact ⟨e0, e1, e2, e3, e4, e5⟩ | exact ⟨f0, f1, f2, f3, f4, f5⟩ | go_keep) (first | (go_at_call 79; have _t := tok1; (refine (moist_any false ps fs mp mf HF.out _ _ _ _ _ _ _ _ _ _ (hp.grow (gg.tr gd)) (hm.keep (gg.tr gd))).mono ?_); clear tok1 _t; rintro e w2 ⟨rfl, hx⟩; (obtain ⟨e0, e1, e2, e3, e4, e5⟩ := (hb.keep (gd.tr hx)).1.c6)) | (go_at_call 79; (refine (moist_any true ps fs mp mf HF.out _ _ _ _ _ _ _ _ _ _ (hp.grow (gg.tr (gd.tr hx))) (hm.keep (gg.tr (gd.tr hx)))).mono ?_); rintro e w3 ⟨rfl, hy⟩; (obtain ⟨f0, f1, f2, f3, f4, f5⟩ := (hb.keep (gd.tr (hx.tr hy))).1.c6); have ob3 := ob.keep (gd.tr (hx.tr hy)); (obtain ⟨u0, u1⟩ := ob3.1.c2); have z0 := ob3.2 0; have z1 := ob3.2 1))
  go_wp2
  refine wp_abs (fun W => Gr w W ∧ Own W w.heap.size [.slice ma mp.length mc, .slice ga mf.length gc, .slice pa ps.length pc, .slice fa fs.length fc, .int .i64 (partsL fs mf), .map (some m)] ∧ Own W (w.heap.size + 1) [.int .i64 (moistL false ps fs mp mf), .int .i64 (moistL true ps fs mp mf)] ∧ Own W (w.heap.size + 1 + 1) [.int .i64 0, .int .i64 0])
    ⟨((gg.tr (gd.tr (hx.tr hy))).setCell (by simp) _).setCell (by simp) _, ((hb.keep (gd.tr (hx.tr hy))).other (by omega)).other (by omega), ((ob.keep (gd.tr (hx.tr hy))).set (i := 0) (by simp)).set (i := 1) (by simp), ((oc.keep (gd.tr (hx.tr hy))).other (by omega)).other (by omega)⟩ ?_
  clear d0 d1 d2 d3 d4 d5 e0 e1 e2 e3 e4 e5 f0 f1 f2 f3 f4 f5 u0 u1 z0 z1 ob3 hx hy gd gg hb ob oc
  rintro W5 ⟨gg, hb, ob, oc⟩
  have ne2 : ¬ w.heap.size + 1 + 1 = w.heap.size := by omega
  have gd := Gr.dr W5
  obtain ⟨d0, d1, d2, d3, d4, d5⟩ := (hb.keep gd).1.c6
  have tok1 : True := trivial
  go_region_held3 (fun w' => w'.cell? ⟨w.heap.size, 0, none⟩ = some (.slice ma mp.length mc) ∧ w'.cell? ⟨w.heap.size, 1, none⟩ = some (.slice ga mf.length gc) ∧ w'.cell? ⟨w.heap.size, 2, none⟩ = some (.slice pa ps.length pc) ∧ w'.cell? ⟨w.heap.size, 3, none⟩ = some (.slice fa fs.length fc) ∧ w'.cell? ⟨w.heap.size, 4, none⟩ = some (.int .i64 (partsL fs mf)) ∧ w'.cell? ⟨w.heap.size, 5, none⟩ = some (.map (some m))) (first | exact ⟨d0, d1, d2, d3, d4, d5⟩ | exact ⟨e0, e1, e2, e3, e4, e5⟩ | exact ⟨f0, f1, f2, f3, f4, f5⟩ | go_keep) (first | (go_at_call 80; have _t := tok1; (refine (thick_any false ps fs mp mf HF.out _ _ _ _ _ _ _ _ _ _ (hp.grow (gg.tr gd)) (hf.grow (gg.tr gd)) (ha.grow (gg.tr gd)) (hg.grow (gg.tr gd))).mono ?_); clear tok1 _t; rintro e w2 ⟨rfl, hx⟩; (obtain ⟨e0, e1, e2, e3, e4, e5⟩ := (hb.keep (gd.tr hx)).1.c6)) | (go_at_call 80; (refine (thick_any true ps fs mp mf HF.out _ _ _ _ _ _ _ _ _ _ (hp.grow (gg.tr (gd.tr hx))) (hf.grow (gg.tr (gd.tr hx))) (ha.grow (gg.tr (gd.tr hx))) (hg.grow (gg.tr (gd.tr hx)))).mono ?_); rintro e w3 ⟨rfl, hy⟩; (obtain ⟨f0, f1, f2, f3, f4, f5⟩ := (hb.keep (gd.tr (hx.tr hy))).1.c6); have oc3 := oc.keep (gd.tr (hx.tr hy)); (obtain ⟨u0, u1⟩ := oc3.1.c2); have z0 := oc3.2 0; have z1 := oc3.2 1))
  go_wp2
  refine wp_abs (fun W => Gr w W ∧ Own W (w.heap.size + 1) [.int .i64 (moistL false ps fs mp mf), .int .i64 (moistL true ps fs mp mf)] ∧ Own W (w.heap.size + 1 + 1) [.int .i64 (thickL false ps fs mp mf), .int .i64 (thickL true ps fs mp mf)])
    ⟨((gg.tr (gd.tr (hx.tr hy))).setCell (by simp; omega) _).setCell (by simp; omega) _, ((ob.keep (gd.tr (hx.tr hy))).other (by omega)).other (by omega), ((oc.keep (gd.tr (hx.tr hy))).set (i := 0) (by simp)).set (i := 1) (by simp)⟩ ?_
  clear d0 d1 d2 d3 d4 d5 e0 e1 e2 e3 e4 e5 f0 f1 f2 f3 f4 f5 u0 u1 z0 z1 oc3 hx hy gd gg hb ob oc
  rintro W6 ⟨gg, ob, oc⟩
  obtain ⟨a0, a1⟩ := ob.1.c2
  obtain ⟨b0, b1⟩ := oc.1.c2
  have y0 := ob.2 0
  have y1 := ob.2 1
  have y2 := oc.2 0
  have y3 := oc.2 1
  go_region
  go_wp2
  have o1 := ((((ob.set (i := 0) (v := .int .i64 (moistL false ps fs mp mf)) (by simp)).set (i := 1) (v := .int .i64 (moistL true ps fs mp mf)) (by simp)).other (b := w.heap.size + 1 + 1) (i := 0) (v := .int .i64 (thickL false ps fs mp mf)) (by omega)).other (b := w.heap.size + 1 + 1) (i := 1) (v := .int .i64 (thickL true ps fs mp mf)) (by omega)).1.c2
  have o2 := ((((oc.other (b := w.heap.size + 1) (i := 0) (v := .int .i64 (moistL false ps fs mp mf)) (by omega)).other (b := w.heap.size + 1) (i := 1) (v := .int .i64 (moistL true ps fs mp mf)) (by omega)).set (i := 0) (v := .int .i64 (thickL false ps fs mp mf)) (by simp)).set (i := 1) (v := .int .i64 (thickL true ps fs mp mf)) (by simp)).1.c2
  obtain ⟨o10, o11⟩ := o1
  obtain ⟨o20, o21⟩ := o2
  refine bodyPost_ret (v := .tuple #[.agg #[.int .i64 (moistL false ps fs mp mf), .int .i64 (moistL true ps fs mp mf)], .agg #[.int .i64 (thickL false ps fs mp mf), .int .i64 (thickL true ps fs mp mf)]]) (by simp [results, Try.results37, go_sem, o10, o11, o20, o21]) rfl ⟨rfl, ?_⟩
  exact ((((gg.setCell (by simp) _).setCell (by simp) _).setCell (by simp; omega) _).setCell (by simp; omega) _).drew

end Go.Proofs.Ytmioakcbgcgdhaa
