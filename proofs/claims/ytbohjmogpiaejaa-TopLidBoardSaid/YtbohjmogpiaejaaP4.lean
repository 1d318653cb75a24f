/- Contract of pubBox. -/
import Derived.Test.YtbohjmogpiaejaaP2
import Derived.Deep.QuietTactic
import Derived.BigQuiet
namespace Go.Proofs.Ytbohjmogpiaejaa
set_option linter.unusedVariables false
set_option linter.unusedSimpArgs false
open Go.RowKit

def bxLong (v0 m : Int) : Int := 60 + v0 + m
def bxWide (v1 m : Int) : Int := 50 + v1 + m
def bxFlap (v1 v4 : Int) : Int := (50 + v1) / 2 + v4 % 3
def bxPan (v0 v1 m : Int) : List Int := [bxLong v0 m, bxWide v1 m, bxLong v0 m, bxWide v1 m]
def bxTop (v1 v4 : Int) : List Int := [bxFlap v1 v4, bxFlap v1 v4]
def bxBot (v1 v4 v5 : Int) : List Int := [bxFlap v1 v4, bxFlap v1 v4 + v5 % 4]

set_option maxRecDepth 100000 in
set_option maxHeartbeats 4000000 in
theorem pubBox_any (x0 x1 x2 x3 x4 x5 x6 x7 x8 x9 x10 x11 x12 x13 x14 x15 x16 x17 x18 x19 x20 x21 x22 x23 x24 : Int) (m : Int) (m0 : 0 ≤ m) (m1 : m ≤ 40) (a0 : 0 ≤ x18) (b0 : x18 ≤ 255) (a1 : 0 ≤ x19) (b1 : x19 ≤ 255) (a2 : 0 ≤ x20) (b2 : x20 ≤ 255) (a3 : 0 ≤ x21) (b3 : x21 ≤ 255) (a4 : 0 ≤ x22) (b4 : x22 ≤ 255) (a5 : 0 ≤ x23) (b5 : x23 ≤ 255) (a6 : 0 ≤ x24) (b6 : x24 ≤ 255) (w : World) :
    Calls Try.prog 8 #[.agg #[.int .u8 x0, .int .u8 x1, .int .u8 x2, .int .u8 x3, .int .u8 x4, .int .u8 x5, .int .u8 x6, .int .u8 x7, .int .u8 x8, .int .u8 x9, .int .u8 x10, .int .u8 x11, .int .u8 x12, .int .u8 x13, .int .u8 x14, .int .u8 x15, .int .u8 x16, .int .u8 x17, .int .u8 x18, .int .u8 x19, .int .u8 x20, .int .u8 x21, .int .u8 x22, .int .u8 x23, .int .u8 x24], .int .i64 m] w (BlankPost (x20 % 50) (40 + x21 + m) (x24 % 21) (bxPan x18 x19 m) (bxTop x19 x22) (bxBot x19 x22 x23) false w) := by
  have gg := ((Gr.al w (.cells #[.int .u8 x0, .int .u8 x1, .int .u8 x2, .int .u8 x3, .int .u8 x4, .int .u8 x5, .int .u8 x6, .int .u8 x7, .int .u8 x8, .int .u8 x9, .int .u8 x10, .int .u8 x11, .int .u8 x12, .int .u8 x13, .int .u8 x14, .int .u8 x15, .int .u8 x16, .int .u8 x17, .int .u8 x18, .int .u8 x19, .int .u8 x20, .int .u8 x21, .int .u8 x22, .int .u8 x23, .int .u8 x24] 28)).tr (Gr.al _ (.cells #[.int .i64 0, .slice none 0 0, .int .i64 0, .slice none 0 0, .slice none 0 0, .int .i64 0, .bool false] 40))).tr (Gr.al _ (.cells #[.int .u8 x18, .int .u8 x19, .int .u8 x20, .int .u8 x21, .int .u8 x22, .int .u8 x23, .int .u8 x24] 26))
  have ob := (Own.new (w.alloc (.cells #[.int .u8 x0, .int .u8 x1, .int .u8 x2, .int .u8 x3, .int .u8 x4, .int .u8 x5, .int .u8 x6, .int .u8 x7, .int .u8 x8, .int .u8 x9, .int .u8 x10, .int .u8 x11, .int .u8 x12, .int .u8 x13, .int .u8 x14, .int .u8 x15, .int .u8 x16, .int .u8 x17, .int .u8 x18, .int .u8 x19, .int .u8 x20, .int .u8 x21, .int .u8 x22, .int .u8 x23, .int .u8 x24] 28)) [.int .i64 0, .slice none 0 0, .int .i64 0, .slice none 0 0, .slice none 0 0, .int .i64 0, .bool false] 40 (w.heap.size + 1) (by simp)).keep (Gr.al _ (.cells #[.int .u8 x18, .int .u8 x19, .int .u8 x20, .int .u8 x21, .int .u8 x22, .int .u8 x23, .int .u8 x24] 26))
  have hv := Box.new ((w.alloc (.cells #[.int .u8 x0, .int .u8 x1, .int .u8 x2, .int .u8 x3, .int .u8 x4, .int .u8 x5, .int .u8 x6, .int .u8 x7, .int .u8 x8, .int .u8 x9, .int .u8 x10, .int .u8 x11, .int .u8 x12, .int .u8 x13, .int .u8 x14, .int .u8 x15, .int .u8 x16, .int .u8 x17, .int .u8 x18, .int .u8 x19, .int .u8 x20, .int .u8 x21, .int .u8 x22, .int .u8 x23, .int .u8 x24] 28)).alloc (.cells #[.int .i64 0, .slice none 0 0, .int .i64 0, .slice none 0 0, .slice none 0 0, .int .i64 0, .bool false] 40)) [.int .u8 x18, .int .u8 x19, .int .u8 x20, .int .u8 x21, .int .u8 x22, .int .u8 x23, .int .u8 x24] 26 (w.heap.size + 1 + 1) (by simp)
  go_enter Try.func8, Try.ntmps8
  go_wp2
  refine wp_abs (fun W => Gr w W ∧ Own W (w.heap.size + 1) [.int .i64 0, .slice none 0 0, .int .i64 0, .slice none 0 0, .slice none 0 0, .int .i64 0, .bool false] ∧ Box W (w.heap.size + 1 + 1) [.int .u8 x18, .int .u8 x19, .int .u8 x20, .int .u8 x21, .int .u8 x22, .int .u8 x23, .int .u8 x24]) ⟨gg, ob, hv⟩ ?_
  clear gg ob hv
  rintro W ⟨gg, ob, hv⟩
  obtain ⟨e0, e1, e2, e3, e4, e5, e6⟩ := hv.c7
  go_quiet (fail)
  have gd := Gr.drewN (Below.refl _ W) nq
  replace gg := gg.tr gd
  replace ob := ob.keep gd
  clear e0 e1 e2 e3 e4 e5 e6
  replace hv := hv.keep gd
  obtain ⟨e0, e1, e2, e3, e4, e5, e6⟩ := hv.c7
  clear e0 e1 e4
  generalize W.drewN nq = V at *
  have gA := Gr.al V (.cells #[.int .i64 (60 + x18 + m), .int .i64 (50 + x19 + m), .int .i64 (60 + x18 + m), .int .i64 (50 + x19 + m)] 3)
  have gB := gA.tr (Gr.al _ (.cells #[.int .i64 ((50 + x19) / 2 + x22 % 3), .int .i64 ((50 + x19) / 2 + x22 % 3)] 3))
  have gC := gB.tr (Gr.al _ (.cells #[.int .i64 ((50 + x19) / 2 + x22 % 3), .int .i64 ((50 + x19) / 2 + x22 % 3 + x23 % 4)] 3))
  have s3 := (hv.keep gA).2 3 _ rfl
  have s5 := (hv.keep gB).2 5 _ rfl
  have s6 := (hv.keep gC).2 6 _ rfl
  have oV := ob.keep gC
  obtain ⟨u0, u1, u2, u3, u4, u5, u6⟩ := oV.1.c7
  have fy := oV.2
  have y0 := fy 0
  have y1 := fy 1
  have y2 := fy 2
  have y3 := fy 3
  have y4 := fy 4
  have y5 := fy 5
  have y6 := fy 6
  clear fy e3 e5 e6
  go_wp2
  have hV := ob.1.1
  have r1 := ((IRow.new' V 3 (bxPan x18 x19 m) (by simp [bxPan]) V.heap.size rfl #[.int .i64 (60 + x18 + m), .int .i64 (50 + x19 + m), .int .i64 (60 + x18 + m), .int .i64 (50 + x19 + m)] (by simp [bxPan, bxLong, bxWide])).grow (Gr.al _ (.cells #[.int .i64 ((50 + x19) / 2 + x22 % 3), .int .i64 ((50 + x19) / 2 + x22 % 3)] 3))).grow (Gr.al _ (.cells #[.int .i64 ((50 + x19) / 2 + x22 % 3), .int .i64 ((50 + x19) / 2 + x22 % 3 + x23 % 4)] 3))
  have r2 := (IRow.new' (V.alloc (.cells #[.int .i64 (60 + x18 + m), .int .i64 (50 + x19 + m), .int .i64 (60 + x18 + m), .int .i64 (50 + x19 + m)] 3)) 3 (bxTop x19 x22) (by simp [bxTop]) (V.heap.size + 1) (by simp) #[.int .i64 ((50 + x19) / 2 + x22 % 3), .int .i64 ((50 + x19) / 2 + x22 % 3)] (by simp [bxTop, bxFlap])).grow (Gr.al _ (.cells #[.int .i64 ((50 + x19) / 2 + x22 % 3), .int .i64 ((50 + x19) / 2 + x22 % 3 + x23 % 4)] 3))
  have r3 := IRow.new' ((V.alloc (.cells #[.int .i64 (60 + x18 + m), .int .i64 (50 + x19 + m), .int .i64 (60 + x18 + m), .int .i64 (50 + x19 + m)] 3)).alloc (.cells #[.int .i64 ((50 + x19) / 2 + x22 % 3), .int .i64 ((50 + x19) / 2 + x22 % 3)] 3)) 3 (bxBot x19 x22 x23) (by simp [bxBot]) (V.heap.size + 1 + 1) (by simp) #[.int .i64 ((50 + x19) / 2 + x22 % 3), .int .i64 ((50 + x19) / 2 + x22 % 3 + x23 % 4)] (by simp [bxBot, bxFlap])
  have n1 := NewAt.lit V.heap.size 0 (w.heap.size + 2) (by omega)
  have n2 := NewAt.lit (V.heap.size + 1) 0 (w.heap.size + 2) (by omega)
  have n3 := NewAt.lit (V.heap.size + 1 + 1) 0 (w.heap.size + 2) (by omega)
  refine bodyPost_ret (v := .agg #[.int .i64 (x20 % 50), .slice (some ⟨V.heap.size, 0, none⟩) 4 4, .int .i64 (40 + x21 + m), .slice (some ⟨V.heap.size + 1, 0, none⟩) 2 2, .slice (some ⟨V.heap.size + 1 + 1, 0, none⟩) 2 2, .int .i64 (x24 % 21), .bool false]) (by simp [results, Try.results8, go_sem, u0, u1, u2, u3, u4, u5, u6]) rfl ⟨_, 4, _, 2, _, 2, rfl, ?_, ?_, ?_, ?_, n1.le (by omega), n2.le (by omega), n3.le (by omega)⟩
  · exact (((((((gg.tr gC).setCell (by simp) _).setCell (by simp) _).setCell (by simp) _).setCell (by simp) _).setCell (by simp) _).setCell (by simp) _).setCell (by simp) _
  · exact (((((((r1).other (n := w.heap.size + 2) n1 (by omega)).other (n := w.heap.size + 2) n1 (by omega)).other (n := w.heap.size + 2) n1 (by omega)).other (n := w.heap.size + 2) n1 (by omega)).other (n := w.heap.size + 2) n1 (by omega)).other (n := w.heap.size + 2) n1 (by omega)).other (n := w.heap.size + 2) n1 (by omega)
  · exact (((((((r2).other (n := w.heap.size + 2) n2 (by omega)).other (n := w.heap.size + 2) n2 (by omega)).other (n := w.heap.size + 2) n2 (by omega)).other (n := w.heap.size + 2) n2 (by omega)).other (n := w.heap.size + 2) n2 (by omega)).other (n := w.heap.size + 2) n2 (by omega)).other (n := w.heap.size + 2) n2 (by omega)
  · exact (((((((r3).other (n := w.heap.size + 2) n3 (by omega)).other (n := w.heap.size + 2) n3 (by omega)).other (n := w.heap.size + 2) n3 (by omega)).other (n := w.heap.size + 2) n3 (by omega)).other (n := w.heap.size + 2) n3 (by omega)).other (n := w.heap.size + 2) n3 (by omega)).other (n := w.heap.size + 2) n3 (by omega)

end Go.Proofs.Ytbohjmogpiaejaa
