/- The contract of armBoard: the document's example of chapter 1. -/
import Derived.Test.YtmioakcbgcgdhaaV6
import Derived.Test.YtmioakcbgcgdhaaQt
import Derived.Test.YtmioakcbgcgdhaaE1
namespace Go.Proofs.Ytmioakcbgcgdhaa
set_option linter.unusedVariables false
set_option linter.unusedSimpArgs false
open Go.RowKit

theorem ml0 : moistL false ps0 fs0 mp0 mf0 = 616 := by decide +kernel

theorem mh0 : moistL true ps0 fs0 mp0 mf0 = 628 := by decide +kernel

theorem st0 : strongL ps0 fs0 mp0 mf0 = 900 := by decide +kernel

theorem measure1 (pa fa ma ga : Option Addr) (w : World) (hp : PRow w pa ps0) (hf : FRow w fa fs0) (ha : IRow w ma mp0) (hg : IRow w ga mf0) :
    Calls Try.prog 10 #[.agg #[.slice pa 2 2, .slice fa 1 1], .agg #[.slice ma 3 3, .slice ga 1 1]] w fun e w' => e = .returned (.tuple #[.agg #[.int .i64 616, .int .i64 628], .agg #[.int .i64 4100, .int .i64 4240], .int .i64 0]) ∧ Gr w w' := by
  have h := measureF_ok ps0 fs0 mp0 mf0 pa fa ma ga 2 1 3 1 w hp hf ha hg made0
  rw [tl0, th0, ml0, mh0] at h
  exact h

theorem strength1 (pa fa ma ga : Option Addr) (w : World) (hp : PRow w pa ps0) (hf : FRow w fa fs0) (ha : IRow w ma mp0) (hg : IRow w ga mf0) :
    Calls Try.prog 13 #[.agg #[.slice pa 2 2, .slice fa 1 1], .agg #[.slice ma 3 3, .slice ga 1 1]] w fun e w' => e = .returned (.tuple #[.int .i64 900, .int .i64 0]) ∧ Gr w w' := by
  have h := strengthF_ok ps0 fs0 mp0 mf0 pa fa ma ga 2 1 3 1 w hp hf ha hg made0
  rw [st0] at h
  exact h

set_option maxRecDepth 100000 in
set_option maxHeartbeats 4000000 in
theorem armBoard_any (w : World) : Calls Try.prog 14 #[] w fun e w' => e = .returned (.bool true) ∧ Gr w w' := by
  go_enter Try.func14, Try.ntmps14
  go_wp2_with fail
  refine (armSpan_any _ _ _).mono ?_
  rintro e w1 ⟨rfl, h1⟩
  go_wp2_with fail
  refine (armSpan_any _ _ _).mono ?_
  rintro e w2 ⟨rfl, h2⟩
  go_wp2_with fail
  refine (armSpan_any _ _ _).mono ?_
  rintro e w3 ⟨rfl, h3⟩
  go_wp2_with fail
  refine (armSpan_any _ _ _).mono ?_
  rintro e w4 ⟨rfl, h4⟩
  go_wp2_with fail
  refine (armSpan_any _ _ _).mono ?_
  rintro e w5 ⟨rfl, h5⟩
  go_upto_region 3 with fail
  refine wp_abs (fun W => Gr w W ∧ PRow W (some ⟨w4.heap.size, 0, none⟩) ps0 ∧ FRow W (some ⟨w5.heap.size, 0, none⟩) fs0 ∧ IRow W (some ⟨w5.heap.size + 1 + 1, 0, none⟩) mp0 ∧ IRow W (some ⟨w5.heap.size + 1 + 1 + 1, 0, none⟩) mf0 ∧
    Box W (w5.heap.size + 1) [.slice (some ⟨w4.heap.size, 0, none⟩) 2 2, .slice (some ⟨w5.heap.size, 0, none⟩) 1 1] ∧ Box W (w5.heap.size + 1 + 1 + 1 + 1) [.slice (some ⟨w5.heap.size + 1 + 1, 0, none⟩) 3 3, .slice (some ⟨w5.heap.size + 1 + 1 + 1, 0, none⟩) 1 1])
    ⟨((((((h1.tr (h2.tr (h3.tr (h4.tr ((Gr.al _ _).tr h5))))).tr (Gr.al _ _)).tr (Gr.al _ _)).tr (Gr.al _ _)).tr (Gr.al _ _)).tr (Gr.al _ _)),
     ((RowOf.lit (enc := encP) (sz := 8) (fun _ => rfl) w4 100 ps0 (by simp [ps0]) _ (by rfl) w4.heap.size rfl).grow h5).grow (((((Gr.al _ _).tr (Gr.al _ _)).tr (Gr.al _ _)).tr (Gr.al _ _)).tr (Gr.al _ _)),
     (RowOf.lit (enc := encF) (sz := 4) (fun _ => rfl) w5 103 fs0 (by simp [fs0]) _ (by rfl) w5.heap.size rfl).grow ((((Gr.al _ _).tr (Gr.al _ _)).tr (Gr.al _ _)).tr (Gr.al _ _)),
     (RowOf.lit (enc := encI) (sz := 1) (fun _ => rfl) _ 3 mp0 (by simp [mp0]) _ (by rfl) (w5.heap.size + 1 + 1) (by simp)).grow ((Gr.al _ _).tr (Gr.al _ _)),
     (RowOf.lit (enc := encI) (sz := 1) (fun _ => rfl) _ 3 mf0 (by simp [mf0]) _ (by rfl) (w5.heap.size + 1 + 1 + 1) (by simp)).grow (Gr.al _ _),
     (Box.new _ [.slice (some ⟨w4.heap.size, 0, none⟩) 2 2, .slice (some ⟨w5.heap.size, 0, none⟩) 1 1] 31 (w5.heap.size + 1) (by simp)).keep (((Gr.al _ _).tr (Gr.al _ _)).tr (Gr.al _ _)),
     Box.new _ [.slice (some ⟨w5.heap.size + 1 + 1, 0, none⟩) 3 3, .slice (some ⟨w5.heap.size + 1 + 1 + 1, 0, none⟩) 1 1] 35 (w5.heap.size + 1 + 1 + 1 + 1) (by simp)⟩ ?_
  rintro W ⟨gW, hp, hf, ha, hg, b1, b2⟩
  clear h1 h2 h3 h4 h5
  obtain ⟨x0, x1⟩ := b1.c2
  obtain ⟨x2, x3⟩ := b2.c2
  go_wp2_with fail
  refine (measure1 _ _ _ _ W hp hf ha hg).mono ?_
  rintro e w6 ⟨rfl, h6⟩
  clear x0 x1 x2 x3
  go_upto_region 4 with fail
  refine wp_abs (fun V => Gr W V ∧ Box V w6.heap.size [.int .i64 616, .int .i64 628] ∧ Box V (w6.heap.size + 1) [.int .i64 4100, .int .i64 4240]) ⟨(h6.tr (Gr.al _ _)).tr (Gr.al _ _), (Box.new _ [.int .i64 616, .int .i64 628] 38 w6.heap.size rfl).keep (Gr.al _ _), Box.new _ [.int .i64 4100, .int .i64 4240] 38 (w6.heap.size + 1) (by simp)⟩ ?_
  rintro V ⟨gV, b3, b3'⟩
  clear h6
  obtain ⟨x0, x1⟩ := (b1.keep gV).c2
  obtain ⟨x2, x3⟩ := (b2.keep gV).c2
  go_wp2_with fail
  refine (strength1 _ _ _ _ V (hp.grow gV) (hf.grow gV) (ha.grow gV) (hg.grow gV)).mono ?_
  rintro e w7 ⟨rfl, h7⟩
  clear x0 x1 x2 x3
  go_upto_region 5 with fail
  refine wp_abs (fun U => Gr W U ∧ Box U w6.heap.size [.int .i64 616, .int .i64 628] ∧ Box U (w6.heap.size + 1) [.int .i64 4100, .int .i64 4240])
    ⟨gV.tr h7, b3.keep h7, b3'.keep h7⟩ ?_
  rintro U ⟨gU, b4, b5⟩
  clear b1 b2 b3 b3' hp hf ha hg h7 gV
  have gX := Gr.dr U
  obtain ⟨x0, x1⟩ := (b4.keep gX).c2
  obtain ⟨x2, x3⟩ := (b5.keep gX).c2
  go_region_held3 (fun w' => w'.cell? ⟨w6.heap.size, 0, none⟩ = some (.int .i64 616) ∧ w'.cell? ⟨w6.heap.size, 1, none⟩ = some (.int .i64 628) ∧ w'.cell? ⟨w6.heap.size + 1, 0, none⟩ = some (.int .i64 4100) ∧ w'.cell? ⟨w6.heap.size + 1, 1, none⟩ = some (.int .i64 4240)) (first | exact ⟨x0, x1, x2, x3⟩ | go_keep) (first
    | (go_at_call 15; (refine (armSpan_any _ _ _).mono ?_); rintro e w8 ⟨rfl, hy⟩; replace gX := gX.tr hy; (obtain ⟨x0, x1⟩ := (b4.keep gX).c2); (obtain ⟨x2, x3⟩ := (b5.keep gX).c2)))
  all_goals
    go_wp2
    go_ret
    exact ⟨rfl, gW.tr (gU.tr gX)⟩

end Go.Proofs.Ytmioakcbgcgdhaa
