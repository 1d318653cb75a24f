/- The contract of crush.Strength. (Made by gen_k3.py.) -/
import Derived.Test.YtkfhmfidgdpeiaaK2
namespace Go.Proofs.Ytkfhmfidgdpeiaa
set_option linter.unusedVariables false
set_option linter.unusedSimpArgs false
open Go.RowKit

theorem boxOk_iff {el eh cl ch ar ru : Int} (h : boxOk el eh cl ch ar ru = true) : (0 ≤ el ∧ el ≤ eh ∧ eh ≤ 100000) ∧ (1 ≤ cl ∧ cl ≤ ch ∧ ch ≤ 10000) ∧ (1 ≤ ar ∧ ar ≤ 20000) ∧ 1 ≤ ru ∧ ru ≤ 1000 := by
  simp [boxOk, okSpan, inB, in1] at h
  omega

set_option maxRecDepth 100000 in
set_option maxHeartbeats 2000000 in
theorem crushStrength_err (el eh cl ch ar ru : Int) (h : boxOk el eh cl ch ar ru = false) (w : World) :
    Calls Try.prog 29 #[.agg #[.int .i64 el, .int .i64 eh, .int .i64 cl, .int .i64 ch, .int .i64 ar, .int .i64 ru]] w fun e w' => e = .returned (.tuple #[.agg #[.int .i64 0, .int .i64 0], .int .i64 2]) ∧ Gr w w' := by
  have gg := (Gr.al w (.cells #[.int .i64 el, .int .i64 eh, .int .i64 cl, .int .i64 ch, .int .i64 ar, .int .i64 ru] 47)).tr (Gr.al _ (.cells #[.int .i64 0, .int .i64 0] 45))
  have hb := (Box.new w [.int .i64 el, .int .i64 eh, .int .i64 cl, .int .i64 ch, .int .i64 ar, .int .i64 ru] 47 w.heap.size rfl).keep (Gr.al _ (.cells #[.int .i64 0, .int .i64 0] 45))
  have ob := Own.new (w.alloc (.cells #[.int .i64 el, .int .i64 eh, .int .i64 cl, .int .i64 ch, .int .i64 ar, .int .i64 ru] 47)) [.int .i64 0, .int .i64 0] 45 (w.heap.size + 1) (by simp)
  obtain ⟨q0, q1, q2, q3, q4, q5⟩ := hb.c6'
  go_enter Try.func29, Try.ntmps29
  go_wp2_with fail
  refine (goodBox_any el eh cl ch ar ru _).mono ?_
  rintro e w1 ⟨rfl, hx⟩
  rw [h]
  have ob1 := ob.keep hx
  obtain ⟨u0, u1⟩ := ob1.1.c2
  have z0 := ob1.2 0
  have z1 := ob1.2 1
  go_wp2
  have o1 := ((ob1.set (i := 0) (v := .int .i64 0) (by simp)).set (i := 1) (v := .int .i64 0) (by simp)).1.c2
  obtain ⟨o10, o11⟩ := o1
  refine bodyPost_ret (v := .tuple #[.agg #[.int .i64 0, .int .i64 0], .int .i64 2]) (by simp [results, Try.results29, go_sem, o10, o11]) rfl ⟨rfl, ?_⟩
  exact ((gg.tr hx).setCell (by simp) _).setCell (by simp) _

set_option maxRecDepth 100000 in
set_option maxHeartbeats 2000000 in
theorem crushStrength_ok (el eh cl ch ar ru : Int) (h : boxOk el eh cl ch ar ru = true) (w : World) :
    Calls Try.prog 29 #[.agg #[.int .i64 el, .int .i64 eh, .int .i64 cl, .int .i64 ch, .int .i64 ar, .int .i64 ru]] w fun e w' => e = .returned (.tuple #[.agg #[.int .i64 (strongB ar ru el cl), .int .i64 (strongB ar ru eh ch)], .int .i64 0]) ∧ Gr w w' := by
  have gg := (Gr.al w (.cells #[.int .i64 el, .int .i64 eh, .int .i64 cl, .int .i64 ch, .int .i64 ar, .int .i64 ru] 47)).tr (Gr.al _ (.cells #[.int .i64 0, .int .i64 0] 45))
  have hb := (Box.new w [.int .i64 el, .int .i64 eh, .int .i64 cl, .int .i64 ch, .int .i64 ar, .int .i64 ru] 47 w.heap.size rfl).keep (Gr.al _ (.cells #[.int .i64 0, .int .i64 0] 45))
  have ob := Own.new (w.alloc (.cells #[.int .i64 el, .int .i64 eh, .int .i64 cl, .int .i64 ch, .int .i64 ar, .int .i64 ru] 47)) [.int .i64 0, .int .i64 0] 45 (w.heap.size + 1) (by simp)
  obtain ⟨q0, q1, q2, q3, q4, q5⟩ := hb.c6'
  obtain ⟨⟨x0, x1, x2⟩, ⟨x3, x4, x5⟩, ⟨x6, x7⟩, x8, x9⟩ := boxOk_iff h
  go_enter Try.func29, Try.ntmps29
  go_wp2_with fail
  refine (goodBox_any el eh cl ch ar ru _).mono ?_
  rintro e w1 ⟨rfl, hx⟩
  rw [h]
  clear h q0 q1 q2 q3 q4 q5
  go_upto_region 1 with fail
  refine wp_abs (fun W => Gr w W ∧ Box W w.heap.size [.int .i64 el, .int .i64 eh, .int .i64 cl, .int .i64 ch, .int .i64 ar, .int .i64 ru] ∧ Own W (w.heap.size + 1) [.int .i64 0, .int .i64 0]) ⟨gg.tr hx, hb.keep hx, ob.keep hx⟩ ?_
  clear gg hb ob hx
  rintro W ⟨gg, hb, ob⟩
  have gd := Gr.dr W
  obtain ⟨d0, d1, d2, d3, d4, d5⟩ := (hb.keep gd).c6'
  have tok1 : True := trivial
  go_region_held3 (fun w' => w'.cell? ⟨w.heap.size, 0, none⟩ = some (.int .i64 el) ∧ w'.cell? ⟨w.heap.size, 1, none⟩ = some (.int .i64 eh) ∧ w'.cell? ⟨w.heap.size, 2, none⟩ = some (.int .i64 cl) ∧ w'.cell? ⟨w.heap.size, 3, none⟩ = some (.int .i64 ch) ∧ w'.cell? ⟨w.heap.size, 4, none⟩ = some (.int .i64 ar) ∧ w'.cell? ⟨w.heap.size, 5, none⟩ = some (.int .i64 ru)) (first | exact ⟨d0, d1, d2, d3, d4, d5⟩ | exact ⟨e0, e1, e2, e3, e4, e5⟩ | exact ⟨f0, f1, f2, f3, f4, f5⟩ | go_keep) (first
    | (go_at_call 71; have _t := tok1; (refine (kstrength_any el eh cl ch ar ru el cl x6 x7 x8 x9 x0 (by omega) x3 (by omega) _).mono ?_); clear tok1 _t; rintro e w2 ⟨rfl, hx⟩; (obtain ⟨e0, e1, e2, e3, e4, e5⟩ := (hb.keep (gd.tr hx)).c6'))
    | (go_at_call 71; (refine (kstrength_any el eh cl ch ar ru eh ch x6 x7 x8 x9 (by omega) x2 (by omega) x5 _).mono ?_); rintro e w3 ⟨rfl, hy⟩; (obtain ⟨f0, f1, f2, f3, f4, f5⟩ := (hb.keep (gd.tr (hx.tr hy))).c6'); have ob3 := ob.keep (gd.tr (hx.tr hy)); (obtain ⟨u0, u1⟩ := ob3.1.c2); have z0 := ob3.2 0; have z1 := ob3.2 1))
  go_wp2
  have o1 := (((ob.keep (gd.tr (hx.tr hy))).set (i := 0) (v := .int .i64 (strongB ar ru el cl)) (by simp)).set (i := 1) (v := .int .i64 (strongB ar ru eh ch)) (by simp)).1.c2
  obtain ⟨o10, o11⟩ := o1
  refine bodyPost_ret (v := .tuple #[.agg #[.int .i64 (strongB ar ru el cl), .int .i64 (strongB ar ru eh ch)], .int .i64 0]) (by simp [results, Try.results29, go_sem, o10, o11]) rfl ⟨rfl, ?_⟩
  exact ((gg.tr (gd.tr (hx.tr hy))).setCell (by simp) _).setCell (by simp) _

end Go.Proofs.Ytkfhmfidgdpeiaa
