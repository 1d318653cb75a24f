/- The contract of a sheet's holding. (Made by gen_s13.py.) What score's search draws, without memory: the smallest blank, measure by measure. Contract of Inner, of a valid blank. The contracts of score.Wish and score.Close, of a valid blank and a valid wish. (Made by gen_s14.py.) A range over a function where both the iterator and the rounds keep memory: each says which blocks it may turn; neither turns the other's. The statement itself: an outermost loop; a loop within a round. The errors of score's arguments in general: Check, Wish, measured, known, first. (Made by gen_s21.py.) -/
import Derived.Test.YtoihnilgmdcndaaQS32a
import Derived.Deep.MidRow
import Derived.Deep.CutRange
import Derived.Deep.DeepCutAuto
import Derived.RangeFuncNested
namespace Go.Proofs.Ytoihnilgmdcndaa
set_option linter.unusedVariables false
set_option linter.unusedSimpArgs false
open Go.RowKit

/-- All calipers with which a check of a sheet holds. -/
def holdL (off hei slo : Int) (pan top bot : List Int) (opn : Bool) (ll lh wl wh hl hh ol oh il ih : Int) (wo : Bool) (k : Nat) : Sp :=
 if (opn || wo) = true ∧ (k = 5 ∨ k = 6) then (if k = 5 ∧ opn ≠ wo then ⟨0, 0⟩ else ⟨1, 10000⟩)
 else ⟨max 1 (((flatS off hei slo pan top bot opn k).lo - (inS ll lh wl wh hl hh ol oh il ih k).hi).tdiv (lostL k opn)), min 10000 (((flatS off hei slo pan top bot opn k).lo - (inS ll lh wl wh hl hh ol oh il ih k).lo).tdiv (lostL k opn))⟩

theorem fieldSp_0 (a b : Value) (w : World) : (Instr.field 37 (.agg #[a, b]) 0).run Try.prog w = .ok a w := by kernel_rfl

theorem lostL_12 (k : Int) (opn : Bool) : lostL k opn = 1 ∨ lostL k opn = 2 := by unfold lostL; split <;> simp

theorem tdiv_bd {x l : Int} (hl : l = 1 ∨ l = 2) (h0 : -100000000 ≤ x) (h1 : x ≤ 100000000) : -100000000 ≤ x.tdiv l ∧ x.tdiv l ≤ 100000000 := by
 rcases hl with rfl | rfl
 ·simp only [Int.tdiv_one]
  exact ⟨h0, h1⟩
 ·rcases Int.le_total 0 x with h | h
  ·rw [Int.tdiv_eq_ediv_of_nonneg h]
   omega
  ·have e : x.tdiv 2 = -((-x).tdiv 2) := by rw [Int.neg_tdiv, Int.neg_neg]
   rw [e, Int.tdiv_eq_ediv_of_nonneg (by omega)]
   omega

theorem hold_bd {off hei slo : Int} {pan top bot : List Int} {opn : Bool} {ll lh wl wh hl hh ol oh il ih : Int} {wo : Bool} {k : Nat} (G : ShK hei slo pan top bot k) (H : GoodWish ll lh wl wh hl hh ol oh il ih) (h2 : 0 ≤ off) (h3 : off ≤ 3000) (hk : k < 10) : SpB 100000000 (holdL off hei slo pan top bot opn ll lh wl wh hl hh ol oh il ih wo k) := by
 obtain ⟨f0, f1, f2, f3⟩ := flatS_bd (opn := opn) G h2 h3 hk
 obtain ⟨i0, i1, i2, i3⟩ := inS_bd H k
 unfold holdL
 split
 ·split <;> exact ⟨by simp only; omega, by simp only; omega, by simp only; omega, by simp only; omega⟩
 ·obtain ⟨a0, a1⟩ := tdiv_bd (lostL_12 k opn) (x := (flatS off hei slo pan top bot opn k).lo - (inS ll lh wl wh hl hh ol oh il ih k).hi) (by omega) (by omega)
  obtain ⟨b0, b1⟩ := tdiv_bd (lostL_12 k opn) (x := (flatS off hei slo pan top bot opn k).lo - (inS ll lh wl wh hl hh ol oh il ih k).lo) (by omega) (by omega)
  exact ⟨by simp only; omega, by simp only; omega, by simp only; omega, by simp only; omega⟩

set_option maxRecDepth 100000 in
set_option maxHeartbeats 4000000 in
theorem hold_5tf (tab hei slo off : Int) (pan top bot : List Int) (pa ta ba : Option Addr) (pc tc bc : Nat) (ll lh wl wh hl hh ol oh il ih : Int)  (G : ShK hei slo pan top bot 5) (H : GoodWish ll lh wl wh hl hh ol oh il ih) (h2 : 0 ≤ off) (h3 : off ≤ 3000)  (w : World) (hp : IRow w pa pan) (ht : IRow w ta top) (hb : IRow w ba bot) :
  Calls Try.prog 84 #[.agg #[.int .i64 tab, .slice pa pan.length pc, .int .i64 hei, .slice ta top.length tc, .slice ba bot.length bc, .int .i64 slo, .bool true, .int .i64 off, .slice ta top.length tc, .slice ba bot.length bc], .agg #[.int .i64 ll, .int .i64 lh, .int .i64 wl, .int .i64 wh, .int .i64 hl, .int .i64 hh, .int .i64 ol, .int .i64 oh, .int .i64 il, .int .i64 ih, .bool false], .int .i64 5] w fun e w' => e = .returned (.agg #[.int .i64 0, .int .i64 0]) ∧ Gr w w' := by
 have gg := (((Gr.al w (.cells #[.int .i64 tab, .slice pa pan.length pc, .int .i64 hei, .slice ta top.length tc, .slice ba bot.length bc, .int .i64 slo, .bool true, .int .i64 off, .slice ta top.length tc, .slice ba bot.length bc] 124)).tr (Gr.al _ (.cells #[.int .i64 ll, .int .i64 lh, .int .i64 wl, .int .i64 wh, .int .i64 hl, .int .i64 hh, .int .i64 ol, .int .i64 oh, .int .i64 il, .int .i64 ih, .bool false] 133))).tr (Gr.al _ (.cells #[.int .i64 0, .int .i64 0] 37))).tr (Gr.al _ (.cells #[.int .i64 1, .int .i64 10000] 37))
 have hX := (((Box.new w [.int .i64 tab, .slice pa pan.length pc, .int .i64 hei, .slice ta top.length tc, .slice ba bot.length bc, .int .i64 slo, .bool true, .int .i64 off, .slice ta top.length tc, .slice ba bot.length bc] 124 w.heap.size rfl).keep (Gr.al _ (.cells #[.int .i64 ll, .int .i64 lh, .int .i64 wl, .int .i64 wh, .int .i64 hl, .int .i64 hh, .int .i64 ol, .int .i64 oh, .int .i64 il, .int .i64 ih, .bool false] 133))).keep (Gr.al _ (.cells #[.int .i64 0, .int .i64 0] 37))).keep (Gr.al _ (.cells #[.int .i64 1, .int .i64 10000] 37))
 have hW := ((Box.new (w.alloc (.cells #[.int .i64 tab, .slice pa pan.length pc, .int .i64 hei, .slice ta top.length tc, .slice ba bot.length bc, .int .i64 slo, .bool true, .int .i64 off, .slice ta top.length tc, .slice ba bot.length bc] 124)) [.int .i64 ll, .int .i64 lh, .int .i64 wl, .int .i64 wh, .int .i64 hl, .int .i64 hh, .int .i64 ol, .int .i64 oh, .int .i64 il, .int .i64 ih, .bool false] 133 (w.heap.size + 1) (by simp)).keep (Gr.al _ (.cells #[.int .i64 0, .int .i64 0] 37))).keep (Gr.al _ (.cells #[.int .i64 1, .int .i64 10000] 37))
 have oR := (Own.new ((w.alloc (.cells #[.int .i64 tab, .slice pa pan.length pc, .int .i64 hei, .slice ta top.length tc, .slice ba bot.length bc, .int .i64 slo, .bool true, .int .i64 off, .slice ta top.length tc, .slice ba bot.length bc] 124)).alloc (.cells #[.int .i64 ll, .int .i64 lh, .int .i64 wl, .int .i64 wh, .int .i64 hl, .int .i64 hh, .int .i64 ol, .int .i64 oh, .int .i64 il, .int .i64 ih, .bool false] 133)) [.int .i64 0, .int .i64 0] 37 (w.heap.size + 1 + 1) (by simp)).keep (Gr.al _ (.cells #[.int .i64 1, .int .i64 10000] 37))
 have hA := Own.new (((w.alloc (.cells #[.int .i64 tab, .slice pa pan.length pc, .int .i64 hei, .slice ta top.length tc, .slice ba bot.length bc, .int .i64 slo, .bool true, .int .i64 off, .slice ta top.length tc, .slice ba bot.length bc] 124)).alloc (.cells #[.int .i64 ll, .int .i64 lh, .int .i64 wl, .int .i64 wh, .int .i64 hl, .int .i64 hh, .int .i64 ol, .int .i64 oh, .int .i64 il, .int .i64 ih, .bool false] 133)).alloc (.cells #[.int .i64 0, .int .i64 0] 37)) [.int .i64 1, .int .i64 10000] 37 (w.heap.size + 1 + 1 + 1) (by simp)
 have q6 := hX.2 6 _ rfl
 have p10 := hW.2 10 _ rfl
 obtain ⟨a0, a1⟩ := hA.1.c2
 obtain ⟨u0, u1⟩ := oR.1.c2
 have z0 := oR.2 0
 have z1 := oR.2 1
 have HP := Lib.hid hp
 have HT := Lib.hid ht
 have HB := Lib.hid hb
 have ob := oR
 clear hp ht hb G H
 go_enter Try.func84, Try.ntmps84
 go_wp2
 have o1 := ((ob.set (i := 0) (v := .int .i64 0) (by simp)).set (i := 1) (v := .int .i64 0) (by simp)).1.c2
 obtain ⟨o10, o11⟩ := o1
 refine bodyPost_ret (v := .agg #[.int .i64 0, .int .i64 0]) (by simp [results, Try.results84, go_sem, o10, o11]) rfl ⟨rfl, ?_⟩
 exact (((Gr.al _ _).tr (Gr.al _ _)).tr (Gr.al _ _)).tr (Gr.al _ _)

set_option maxRecDepth 100000 in
set_option maxHeartbeats 4000000 in
theorem hold_5ft (tab hei slo off : Int) (pan top bot : List Int) (pa ta ba : Option Addr) (pc tc bc : Nat) (ll lh wl wh hl hh ol oh il ih : Int)  (G : ShK hei slo pan top bot 5) (H : GoodWish ll lh wl wh hl hh ol oh il ih) (h2 : 0 ≤ off) (h3 : off ≤ 3000)  (w : World) (hp : IRow w pa pan) (ht : IRow w ta top) (hb : IRow w ba bot) :
  Calls Try.prog 84 #[.agg #[.int .i64 tab, .slice pa pan.length pc, .int .i64 hei, .slice ta top.length tc, .slice ba bot.length bc, .int .i64 slo, .bool false, .int .i64 off, .slice ta top.length tc, .slice ba bot.length bc], .agg #[.int .i64 ll, .int .i64 lh, .int .i64 wl, .int .i64 wh, .int .i64 hl, .int .i64 hh, .int .i64 ol, .int .i64 oh, .int .i64 il, .int .i64 ih, .bool true], .int .i64 5] w fun e w' => e = .returned (.agg #[.int .i64 0, .int .i64 0]) ∧ Gr w w' := by
 have gg := (((Gr.al w (.cells #[.int .i64 tab, .slice pa pan.length pc, .int .i64 hei, .slice ta top.length tc, .slice ba bot.length bc, .int .i64 slo, .bool false, .int .i64 off, .slice ta top.length tc, .slice ba bot.length bc] 124)).tr (Gr.al _ (.cells #[.int .i64 ll, .int .i64 lh, .int .i64 wl, .int .i64 wh, .int .i64 hl, .int .i64 hh, .int .i64 ol, .int .i64 oh, .int .i64 il, .int .i64 ih, .bool true] 133))).tr (Gr.al _ (.cells #[.int .i64 0, .int .i64 0] 37))).tr (Gr.al _ (.cells #[.int .i64 1, .int .i64 10000] 37))
 have hX := (((Box.new w [.int .i64 tab, .slice pa pan.length pc, .int .i64 hei, .slice ta top.length tc, .slice ba bot.length bc, .int .i64 slo, .bool false, .int .i64 off, .slice ta top.length tc, .slice ba bot.length bc] 124 w.heap.size rfl).keep (Gr.al _ (.cells #[.int .i64 ll, .int .i64 lh, .int .i64 wl, .int .i64 wh, .int .i64 hl, .int .i64 hh, .int .i64 ol, .int .i64 oh, .int .i64 il, .int .i64 ih, .bool true] 133))).keep (Gr.al _ (.cells #[.int .i64 0, .int .i64 0] 37))).keep (Gr.al _ (.cells #[.int .i64 1, .int .i64 10000] 37))
 have hW := ((Box.new (w.alloc (.cells #[.int .i64 tab, .slice pa pan.length pc, .int .i64 hei, .slice ta top.length tc, .slice ba bot.length bc, .int .i64 slo, .bool false, .int .i64 off, .slice ta top.length tc, .slice ba bot.length bc] 124)) [.int .i64 ll, .int .i64 lh, .int .i64 wl, .int .i64 wh, .int .i64 hl, .int .i64 hh, .int .i64 ol, .int .i64 oh, .int .i64 il, .int .i64 ih, .bool true] 133 (w.heap.size + 1) (by simp)).keep (Gr.al _ (.cells #[.int .i64 0, .int .i64 0] 37))).keep (Gr.al _ (.cells #[.int .i64 1, .int .i64 10000] 37))
 have oR := (Own.new ((w.alloc (.cells #[.int .i64 tab, .slice pa pan.length pc, .int .i64 hei, .slice ta top.length tc, .slice ba bot.length bc, .int .i64 slo, .bool false, .int .i64 off, .slice ta top.length tc, .slice ba bot.length bc] 124)).alloc (.cells #[.int .i64 ll, .int .i64 lh, .int .i64 wl, .int .i64 wh, .int .i64 hl, .int .i64 hh, .int .i64 ol, .int .i64 oh, .int .i64 il, .int .i64 ih, .bool true] 133)) [.int .i64 0, .int .i64 0] 37 (w.heap.size + 1 + 1) (by simp)).keep (Gr.al _ (.cells #[.int .i64 1, .int .i64 10000] 37))
 have hA := Own.new (((w.alloc (.cells #[.int .i64 tab, .slice pa pan.length pc, .int .i64 hei, .slice ta top.length tc, .slice ba bot.length bc, .int .i64 slo, .bool false, .int .i64 off, .slice ta top.length tc, .slice ba bot.length bc] 124)).alloc (.cells #[.int .i64 ll, .int .i64 lh, .int .i64 wl, .int .i64 wh, .int .i64 hl, .int .i64 hh, .int .i64 ol, .int .i64 oh, .int .i64 il, .int .i64 ih, .bool true] 133)).alloc (.cells #[.int .i64 0, .int .i64 0] 37)) [.int .i64 1, .int .i64 10000] 37 (w.heap.size + 1 + 1 + 1) (by simp)
 have q6 := hX.2 6 _ rfl
 have p10 := hW.2 10 _ rfl
 obtain ⟨a0, a1⟩ := hA.1.c2
 obtain ⟨u0, u1⟩ := oR.1.c2
 have z0 := oR.2 0
 have z1 := oR.2 1
 have HP := Lib.hid hp
 have HT := Lib.hid ht
 have HB := Lib.hid hb
 have ob := oR
 clear hp ht hb G H
 go_enter Try.func84, Try.ntmps84
 go_wp2
 have o1 := ((ob.set (i := 0) (v := .int .i64 0) (by simp)).set (i := 1) (v := .int .i64 0) (by simp)).1.c2
 obtain ⟨o10, o11⟩ := o1
 refine bodyPost_ret (v := .agg #[.int .i64 0, .int .i64 0]) (by simp [results, Try.results84, go_sem, o10, o11]) rfl ⟨rfl, ?_⟩
 exact (((Gr.al _ _).tr (Gr.al _ _)).tr (Gr.al _ _)).tr (Gr.al _ _)

set_option maxRecDepth 100000 in
set_option maxHeartbeats 4000000 in
theorem hold_5tt (tab hei slo off : Int) (pan top bot : List Int) (pa ta ba : Option Addr) (pc tc bc : Nat) (ll lh wl wh hl hh ol oh il ih : Int)  (G : ShK hei slo pan top bot 5) (H : GoodWish ll lh wl wh hl hh ol oh il ih) (h2 : 0 ≤ off) (h3 : off ≤ 3000)  (w : World) (hp : IRow w pa pan) (ht : IRow w ta top) (hb : IRow w ba bot) :
  Calls Try.prog 84 #[.agg #[.int .i64 tab, .slice pa pan.length pc, .int .i64 hei, .slice ta top.length tc, .slice ba bot.length bc, .int .i64 slo, .bool true, .int .i64 off, .slice ta top.length tc, .slice ba bot.length bc], .agg #[.int .i64 ll, .int .i64 lh, .int .i64 wl, .int .i64 wh, .int .i64 hl, .int .i64 hh, .int .i64 ol, .int .i64 oh, .int .i64 il, .int .i64 ih, .bool true], .int .i64 5] w fun e w' => e = .returned (.agg #[.int .i64 1, .int .i64 10000]) ∧ Gr w w' := by
 have gg := (((Gr.al w (.cells #[.int .i64 tab, .slice pa pan.length pc, .int .i64 hei, .slice ta top.length tc, .slice ba bot.length bc, .int .i64 slo, .bool true, .int .i64 off, .slice ta top.length tc, .slice ba bot.length bc] 124)).tr (Gr.al _ (.cells #[.int .i64 ll, .int .i64 lh, .int .i64 wl, .int .i64 wh, .int .i64 hl, .int .i64 hh, .int .i64 ol, .int .i64 oh, .int .i64 il, .int .i64 ih, .bool true] 133))).tr (Gr.al _ (.cells #[.int .i64 0, .int .i64 0] 37))).tr (Gr.al _ (.cells #[.int .i64 1, .int .i64 10000] 37))
 have hX := (((Box.new w [.int .i64 tab, .slice pa pan.length pc, .int .i64 hei, .slice ta top.length tc, .slice ba bot.length bc, .int .i64 slo, .bool true, .int .i64 off, .slice ta top.length tc, .slice ba bot.length bc] 124 w.heap.size rfl).keep (Gr.al _ (.cells #[.int .i64 ll, .int .i64 lh, .int .i64 wl, .int .i64 wh, .int .i64 hl, .int .i64 hh, .int .i64 ol, .int .i64 oh, .int .i64 il, .int .i64 ih, .bool true] 133))).keep (Gr.al _ (.cells #[.int .i64 0, .int .i64 0] 37))).keep (Gr.al _ (.cells #[.int .i64 1, .int .i64 10000] 37))
 have hW := ((Box.new (w.alloc (.cells #[.int .i64 tab, .slice pa pan.length pc, .int .i64 hei, .slice ta top.length tc, .slice ba bot.length bc, .int .i64 slo, .bool true, .int .i64 off, .slice ta top.length tc, .slice ba bot.length bc] 124)) [.int .i64 ll, .int .i64 lh, .int .i64 wl, .int .i64 wh, .int .i64 hl, .int .i64 hh, .int .i64 ol, .int .i64 oh, .int .i64 il, .int .i64 ih, .bool true] 133 (w.heap.size + 1) (by simp)).keep (Gr.al _ (.cells #[.int .i64 0, .int .i64 0] 37))).keep (Gr.al _ (.cells #[.int .i64 1, .int .i64 10000] 37))
 have oR := (Own.new ((w.alloc (.cells #[.int .i64 tab, .slice pa pan.length pc, .int .i64 hei, .slice ta top.length tc, .slice ba bot.length bc, .int .i64 slo, .bool true, .int .i64 off, .slice ta top.length tc, .slice ba bot.length bc] 124)).alloc (.cells #[.int .i64 ll, .int .i64 lh, .int .i64 wl, .int .i64 wh, .int .i64 hl, .int .i64 hh, .int .i64 ol, .int .i64 oh, .int .i64 il, .int .i64 ih, .bool true] 133)) [.int .i64 0, .int .i64 0] 37 (w.heap.size + 1 + 1) (by simp)).keep (Gr.al _ (.cells #[.int .i64 1, .int .i64 10000] 37))
 have hA := Own.new (((w.alloc (.cells #[.int .i64 tab, .slice pa pan.length pc, .int .i64 hei, .slice ta top.length tc, .slice ba bot.length bc, .int .i64 slo, .bool true, .int .i64 off, .slice ta top.length tc, .slice ba bot.length bc] 124)).alloc (.cells #[.int .i64 ll, .int .i64 lh, .int .i64 wl, .int .i64 wh, .int .i64 hl, .int .i64 hh, .int .i64 ol, .int .i64 oh, .int .i64 il, .int .i64 ih, .bool true] 133)).alloc (.cells #[.int .i64 0, .int .i64 0] 37)) [.int .i64 1, .int .i64 10000] 37 (w.heap.size + 1 + 1 + 1) (by simp)
 have q6 := hX.2 6 _ rfl
 have p10 := hW.2 10 _ rfl
 obtain ⟨a0, a1⟩ := hA.1.c2
 obtain ⟨u0, u1⟩ := oR.1.c2
 have z0 := oR.2 0
 have z1 := oR.2 1
 have HP := Lib.hid hp
 have HT := Lib.hid ht
 have HB := Lib.hid hb
 have ob := oR
 clear hp ht hb G H
 go_enter Try.func84, Try.ntmps84
 go_wp2
 have o1 := ((ob.set (i := 0) (v := .int .i64 1) (by simp)).set (i := 1) (v := .int .i64 10000) (by simp)).1.c2
 obtain ⟨o10, o11⟩ := o1
 refine bodyPost_ret (v := .agg #[.int .i64 1, .int .i64 10000]) (by simp [results, Try.results84, go_sem, o10, o11]) rfl ⟨rfl, ?_⟩
 exact (((Gr.al _ _).tr (Gr.al _ _)).tr (Gr.al _ _)).tr (Gr.al _ _)

set_option maxRecDepth 100000 in
set_option maxHeartbeats 4000000 in
theorem hold_6tf (tab hei slo off : Int) (pan top bot : List Int) (pa ta ba : Option Addr) (pc tc bc : Nat) (ll lh wl wh hl hh ol oh il ih : Int)  (G : ShK hei slo pan top bot 6) (H : GoodWish ll lh wl wh hl hh ol oh il ih) (h2 : 0 ≤ off) (h3 : off ≤ 3000)  (w : World) (hp : IRow w pa pan) (ht : IRow w ta top) (hb : IRow w ba bot) :
  Calls Try.prog 84 #[.agg #[.int .i64 tab, .slice pa pan.length pc, .int .i64 hei, .slice ta top.length tc, .slice ba bot.length bc, .int .i64 slo, .bool true, .int .i64 off, .slice ta top.length tc, .slice ba bot.length bc], .agg #[.int .i64 ll, .int .i64 lh, .int .i64 wl, .int .i64 wh, .int .i64 hl, .int .i64 hh, .int .i64 ol, .int .i64 oh, .int .i64 il, .int .i64 ih, .bool false], .int .i64 6] w fun e w' => e = .returned (.agg #[.int .i64 1, .int .i64 10000]) ∧ Gr w w' := by
 have gg := (((Gr.al w (.cells #[.int .i64 tab, .slice pa pan.length pc, .int .i64 hei, .slice ta top.length tc, .slice ba bot.length bc, .int .i64 slo, .bool true, .int .i64 off, .slice ta top.length tc, .slice ba bot.length bc] 124)).tr (Gr.al _ (.cells #[.int .i64 ll, .int .i64 lh, .int .i64 wl, .int .i64 wh, .int .i64 hl, .int .i64 hh, .int .i64 ol, .int .i64 oh, .int .i64 il, .int .i64 ih, .bool false] 133))).tr (Gr.al _ (.cells #[.int .i64 0, .int .i64 0] 37))).tr (Gr.al _ (.cells #[.int .i64 1, .int .i64 10000] 37))
 have hX := (((Box.new w [.int .i64 tab, .slice pa pan.length pc, .int .i64 hei, .slice ta top.length tc, .slice ba bot.length bc, .int .i64 slo, .bool true, .int .i64 off, .slice ta top.length tc, .slice ba bot.length bc] 124 w.heap.size rfl).keep (Gr.al _ (.cells #[.int .i64 ll, .int .i64 lh, .int .i64 wl, .int .i64 wh, .int .i64 hl, .int .i64 hh, .int .i64 ol, .int .i64 oh, .int .i64 il, .int .i64 ih, .bool false] 133))).keep (Gr.al _ (.cells #[.int .i64 0, .int .i64 0] 37))).keep (Gr.al _ (.cells #[.int .i64 1, .int .i64 10000] 37))
 have hW := ((Box.new (w.alloc (.cells #[.int .i64 tab, .slice pa pan.length pc, .int .i64 hei, .slice ta top.length tc, .slice ba bot.length bc, .int .i64 slo, .bool true, .int .i64 off, .slice ta top.length tc, .slice ba bot.length bc] 124)) [.int .i64 ll, .int .i64 lh, .int .i64 wl, .int .i64 wh, .int .i64 hl, .int .i64 hh, .int .i64 ol, .int .i64 oh, .int .i64 il, .int .i64 ih, .bool false] 133 (w.heap.size + 1) (by simp)).keep (Gr.al _ (.cells #[.int .i64 0, .int .i64 0] 37))).keep (Gr.al _ (.cells #[.int .i64 1, .int .i64 10000] 37))
 have oR := (Own.new ((w.alloc (.cells #[.int .i64 tab, .slice pa pan.length pc, .int .i64 hei, .slice ta top.length tc, .slice ba bot.length bc, .int .i64 slo, .bool true, .int .i64 off, .slice ta top.length tc, .slice ba bot.length bc] 124)).alloc (.cells #[.int .i64 ll, .int .i64 lh, .int .i64 wl, .int .i64 wh, .int .i64 hl, .int .i64 hh, .int .i64 ol, .int .i64 oh, .int .i64 il, .int .i64 ih, .bool false] 133)) [.int .i64 0, .int .i64 0] 37 (w.heap.size + 1 + 1) (by simp)).keep (Gr.al _ (.cells #[.int .i64 1, .int .i64 10000] 37))
 have hA := Own.new (((w.alloc (.cells #[.int .i64 tab, .slice pa pan.length pc, .int .i64 hei, .slice ta top.length tc, .slice ba bot.length bc, .int .i64 slo, .bool true, .int .i64 off, .slice ta top.length tc, .slice ba bot.length bc] 124)).alloc (.cells #[.int .i64 ll, .int .i64 lh, .int .i64 wl, .int .i64 wh, .int .i64 hl, .int .i64 hh, .int .i64 ol, .int .i64 oh, .int .i64 il, .int .i64 ih, .bool false] 133)).alloc (.cells #[.int .i64 0, .int .i64 0] 37)) [.int .i64 1, .int .i64 10000] 37 (w.heap.size + 1 + 1 + 1) (by simp)
 have q6 := hX.2 6 _ rfl
 have p10 := hW.2 10 _ rfl
 obtain ⟨a0, a1⟩ := hA.1.c2
 obtain ⟨u0, u1⟩ := oR.1.c2
 have z0 := oR.2 0
 have z1 := oR.2 1
 have HP := Lib.hid hp
 have HT := Lib.hid ht
 have HB := Lib.hid hb
 have ob := oR
 clear hp ht hb G H
 go_enter Try.func84, Try.ntmps84
 go_wp2
 have o1 := ((ob.set (i := 0) (v := .int .i64 1) (by simp)).set (i := 1) (v := .int .i64 10000) (by simp)).1.c2
 obtain ⟨o10, o11⟩ := o1
 refine bodyPost_ret (v := .agg #[.int .i64 1, .int .i64 10000]) (by simp [results, Try.results84, go_sem, o10, o11]) rfl ⟨rfl, ?_⟩
 exact (((Gr.al _ _).tr (Gr.al _ _)).tr (Gr.al _ _)).tr (Gr.al _ _)

set_option maxRecDepth 100000 in
set_option maxHeartbeats 4000000 in
theorem hold_6tt (tab hei slo off : Int) (pan top bot : List Int) (pa ta ba : Option Addr) (pc tc bc : Nat) (ll lh wl wh hl hh ol oh il ih : Int)  (G : ShK hei slo pan top bot 6) (H : GoodWish ll lh wl wh hl hh ol oh il ih) (h2 : 0 ≤ off) (h3 : off ≤ 3000)  (w : World) (hp : IRow w pa pan) (ht : IRow w ta top) (hb : IRow w ba bot) :
  Calls Try.prog 84 #[.agg #[.int .i64 tab, .slice pa pan.length pc, .int .i64 hei, .slice ta top.length tc, .slice ba bot.length bc, .int .i64 slo, .bool true, .int .i64 off, .slice ta top.length tc, .slice ba bot.length bc], .agg #[.int .i64 ll, .int .i64 lh, .int .i64 wl, .int .i64 wh, .int .i64 hl, .int .i64 hh, .int .i64 ol, .int .i64 oh, .int .i64 il, .int .i64 ih, .bool true], .int .i64 6] w fun e w' => e = .returned (.agg #[.int .i64 1, .int .i64 10000]) ∧ Gr w w' := by
 have gg := (((Gr.al w (.cells #[.int .i64 tab, .slice pa pan.length pc, .int .i64 hei, .slice ta top.length tc, .slice ba bot.length bc, .int .i64 slo, .bool true, .int .i64 off, .slice ta top.length tc, .slice ba bot.length bc] 124)).tr (Gr.al _ (.cells #[.int .i64 ll, .int .i64 lh, .int .i64 wl, .int .i64 wh, .int .i64 hl, .int .i64 hh, .int .i64 ol, .int .i64 oh, .int .i64 il, .int .i64 ih, .bool true] 133))).tr (Gr.al _ (.cells #[.int .i64 0, .int .i64 0] 37))).tr (Gr.al _ (.cells #[.int .i64 1, .int .i64 10000] 37))
 have hX := (((Box.new w [.int .i64 tab, .slice pa pan.length pc, .int .i64 hei, .slice ta top.length tc, .slice ba bot.length bc, .int .i64 slo, .bool true, .int .i64 off, .slice ta top.length tc, .slice ba bot.length bc] 124 w.heap.size rfl).keep (Gr.al _ (.cells #[.int .i64 ll, .int .i64 lh, .int .i64 wl, .int .i64 wh, .int .i64 hl, .int .i64 hh, .int .i64 ol, .int .i64 oh, .int .i64 il, .int .i64 ih, .bool true] 133))).keep (Gr.al _ (.cells #[.int .i64 0, .int .i64 0] 37))).keep (Gr.al _ (.cells #[.int .i64 1, .int .i64 10000] 37))
 have hW := ((Box.new (w.alloc (.cells #[.int .i64 tab, .slice pa pan.length pc, .int .i64 hei, .slice ta top.length tc, .slice ba bot.length bc, .int .i64 slo, .bool true, .int .i64 off, .slice ta top.length tc, .slice ba bot.length bc] 124)) [.int .i64 ll, .int .i64 lh, .int .i64 wl, .int .i64 wh, .int .i64 hl, .int .i64 hh, .int .i64 ol, .int .i64 oh, .int .i64 il, .int .i64 ih, .bool true] 133 (w.heap.size + 1) (by simp)).keep (Gr.al _ (.cells #[.int .i64 0, .int .i64 0] 37))).keep (Gr.al _ (.cells #[.int .i64 1, .int .i64 10000] 37))
 have oR := (Own.new ((w.alloc (.cells #[.int .i64 tab, .slice pa pan.length pc, .int .i64 hei, .slice ta top.length tc, .slice ba bot.length bc, .int .i64 slo, .bool true, .int .i64 off, .slice ta top.length tc, .slice ba bot.length bc] 124)).alloc (.cells #[.int .i64 ll, .int .i64 lh, .int .i64 wl, .int .i64 wh, .int .i64 hl, .int .i64 hh, .int .i64 ol, .int .i64 oh, .int .i64 il, .int .i64 ih, .bool true] 133)) [.int .i64 0, .int .i64 0] 37 (w.heap.size + 1 + 1) (by simp)).keep (Gr.al _ (.cells #[.int .i64 1, .int .i64 10000] 37))
 have hA := Own.new (((w.alloc (.cells #[.int .i64 tab, .slice pa pan.length pc, .int .i64 hei, .slice ta top.length tc, .slice ba bot.length bc, .int .i64 slo, .bool true, .int .i64 off, .slice ta top.length tc, .slice ba bot.length bc] 124)).alloc (.cells #[.int .i64 ll, .int .i64 lh, .int .i64 wl, .int .i64 wh, .int .i64 hl, .int .i64 hh, .int .i64 ol, .int .i64 oh, .int .i64 il, .int .i64 ih, .bool true] 133)).alloc (.cells #[.int .i64 0, .int .i64 0] 37)) [.int .i64 1, .int .i64 10000] 37 (w.heap.size + 1 + 1 + 1) (by simp)
 have q6 := hX.2 6 _ rfl
 have p10 := hW.2 10 _ rfl
 obtain ⟨a0, a1⟩ := hA.1.c2
 obtain ⟨u0, u1⟩ := oR.1.c2
 have z0 := oR.2 0
 have z1 := oR.2 1
 have HP := Lib.hid hp
 have HT := Lib.hid ht
 have HB := Lib.hid hb
 have ob := oR
 clear hp ht hb G H
 go_enter Try.func84, Try.ntmps84
 go_wp2
 have o1 := ((ob.set (i := 0) (v := .int .i64 1) (by simp)).set (i := 1) (v := .int .i64 10000) (by simp)).1.c2
 obtain ⟨o10, o11⟩ := o1
 refine bodyPost_ret (v := .agg #[.int .i64 1, .int .i64 10000]) (by simp [results, Try.results84, go_sem, o10, o11]) rfl ⟨rfl, ?_⟩
 exact (((Gr.al _ _).tr (Gr.al _ _)).tr (Gr.al _ _)).tr (Gr.al _ _)

set_option maxRecDepth 100000 in
set_option maxHeartbeats 4000000 in
theorem hold_6ft (tab hei slo off : Int) (pan top bot : List Int) (pa ta ba : Option Addr) (pc tc bc : Nat) (ll lh wl wh hl hh ol oh il ih : Int)  (G : ShK hei slo pan top bot 6) (H : GoodWish ll lh wl wh hl hh ol oh il ih) (h2 : 0 ≤ off) (h3 : off ≤ 3000)  (w : World) (hp : IRow w pa pan) (ht : IRow w ta top) (hb : IRow w ba bot) :
  Calls Try.prog 84 #[.agg #[.int .i64 tab, .slice pa pan.length pc, .int .i64 hei, .slice ta top.length tc, .slice ba bot.length bc, .int .i64 slo, .bool false, .int .i64 off, .slice ta top.length tc, .slice ba bot.length bc], .agg #[.int .i64 ll, .int .i64 lh, .int .i64 wl, .int .i64 wh, .int .i64 hl, .int .i64 hh, .int .i64 ol, .int .i64 oh, .int .i64 il, .int .i64 ih, .bool true], .int .i64 6] w fun e w' => e = .returned (.agg #[.int .i64 1, .int .i64 10000]) ∧ Gr w w' := by
 have gg := (((Gr.al w (.cells #[.int .i64 tab, .slice pa pan.length pc, .int .i64 hei, .slice ta top.length tc, .slice ba bot.length bc, .int .i64 slo, .bool false, .int .i64 off, .slice ta top.length tc, .slice ba bot.length bc] 124)).tr (Gr.al _ (.cells #[.int .i64 ll, .int .i64 lh, .int .i64 wl, .int .i64 wh, .int .i64 hl, .int .i64 hh, .int .i64 ol, .int .i64 oh, .int .i64 il, .int .i64 ih, .bool true] 133))).tr (Gr.al _ (.cells #[.int .i64 0, .int .i64 0] 37))).tr (Gr.al _ (.cells #[.int .i64 1, .int .i64 10000] 37))
 have hX := (((Box.new w [.int .i64 tab, .slice pa pan.length pc, .int .i64 hei, .slice ta top.length tc, .slice ba bot.length bc, .int .i64 slo, .bool false, .int .i64 off, .slice ta top.length tc, .slice ba bot.length bc] 124 w.heap.size rfl).keep (Gr.al _ (.cells #[.int .i64 ll, .int .i64 lh, .int .i64 wl, .int .i64 wh, .int .i64 hl, .int .i64 hh, .int .i64 ol, .int .i64 oh, .int .i64 il, .int .i64 ih, .bool true] 133))).keep (Gr.al _ (.cells #[.int .i64 0, .int .i64 0] 37))).keep (Gr.al _ (.cells #[.int .i64 1, .int .i64 10000] 37))
 have hW := ((Box.new (w.alloc (.cells #[.int .i64 tab, .slice pa pan.length pc, .int .i64 hei, .slice ta top.length tc, .slice ba bot.length bc, .int .i64 slo, .bool false, .int .i64 off, .slice ta top.length tc, .slice ba bot.length bc] 124)) [.int .i64 ll, .int .i64 lh, .int .i64 wl, .int .i64 wh, .int .i64 hl, .int .i64 hh, .int .i64 ol, .int .i64 oh, .int .i64 il, .int .i64 ih, .bool true] 133 (w.heap.size + 1) (by simp)).keep (Gr.al _ (.cells #[.int .i64 0, .int .i64 0] 37))).keep (Gr.al _ (.cells #[.int .i64 1, .int .i64 10000] 37))
 have oR := (Own.new ((w.alloc (.cells #[.int .i64 tab, .slice pa pan.length pc, .int .i64 hei, .slice ta top.length tc, .slice ba bot.length bc, .int .i64 slo, .bool false, .int .i64 off, .slice ta top.length tc, .slice ba bot.length bc] 124)).alloc (.cells #[.int .i64 ll, .int .i64 lh, .int .i64 wl, .int .i64 wh, .int .i64 hl, .int .i64 hh, .int .i64 ol, .int .i64 oh, .int .i64 il, .int .i64 ih, .bool true] 133)) [.int .i64 0, .int .i64 0] 37 (w.heap.size + 1 + 1) (by simp)).keep (Gr.al _ (.cells #[.int .i64 1, .int .i64 10000] 37))
 have hA := Own.new (((w.alloc (.cells #[.int .i64 tab, .slice pa pan.length pc, .int .i64 hei, .slice ta top.length tc, .slice ba bot.length bc, .int .i64 slo, .bool false, .int .i64 off, .slice ta top.length tc, .slice ba bot.length bc] 124)).alloc (.cells #[.int .i64 ll, .int .i64 lh, .int .i64 wl, .int .i64 wh, .int .i64 hl, .int .i64 hh, .int .i64 ol, .int .i64 oh, .int .i64 il, .int .i64 ih, .bool true] 133)).alloc (.cells #[.int .i64 0, .int .i64 0] 37)) [.int .i64 1, .int .i64 10000] 37 (w.heap.size + 1 + 1 + 1) (by simp)
 have q6 := hX.2 6 _ rfl
 have p10 := hW.2 10 _ rfl
 obtain ⟨a0, a1⟩ := hA.1.c2
 obtain ⟨u0, u1⟩ := oR.1.c2
 have z0 := oR.2 0
 have z1 := oR.2 1
 have HP := Lib.hid hp
 have HT := Lib.hid ht
 have HB := Lib.hid hb
 have ob := oR
 clear hp ht hb G H
 go_enter Try.func84, Try.ntmps84
 go_wp2
 have o1 := ((ob.set (i := 0) (v := .int .i64 1) (by simp)).set (i := 1) (v := .int .i64 10000) (by simp)).1.c2
 obtain ⟨o10, o11⟩ := o1
 refine bodyPost_ret (v := .agg #[.int .i64 1, .int .i64 10000]) (by simp [results, Try.results84, go_sem, o10, o11]) rfl ⟨rfl, ?_⟩
 exact (((Gr.al _ _).tr (Gr.al _ _)).tr (Gr.al _ _)).tr (Gr.al _ _)

set_option maxRecDepth 100000 in
set_option maxHeartbeats 4000000 in
theorem hold_ff (tab hei slo off : Int) (pan top bot : List Int) (pa ta ba : Option Addr) (pc tc bc : Nat) (ll lh wl wh hl hh ol oh il ih : Int) (k : Nat) (hk : k < 10) (G : ShK hei slo pan top bot k) (H : GoodWish ll lh wl wh hl hh ol oh il ih) (h2 : 0 ≤ off) (h3 : off ≤ 3000)  (w : World) (hp : IRow w pa pan) (ht : IRow w ta top) (hb : IRow w ba bot) :
  Calls Try.prog 84 #[.agg #[.int .i64 tab, .slice pa pan.length pc, .int .i64 hei, .slice ta top.length tc, .slice ba bot.length bc, .int .i64 slo, .bool false, .int .i64 off, .slice ta top.length tc, .slice ba bot.length bc], .agg #[.int .i64 ll, .int .i64 lh, .int .i64 wl, .int .i64 wh, .int .i64 hl, .int .i64 hh, .int .i64 ol, .int .i64 oh, .int .i64 il, .int .i64 ih, .bool false], .int .i64 k] w fun e w' => e = .returned (.agg #[.int .i64 (max 1 (((flatS off hei slo pan top bot false k).lo - (inS ll lh wl wh hl hh ol oh il ih k).hi).tdiv (lostL k false))), .int .i64 (min 10000 (((flatS off hei slo pan top bot false k).lo - (inS ll lh wl wh hl hh ol oh il ih k).lo).tdiv (lostL k false)))]) ∧ Gr w w' := by
 have gg := (((Gr.al w (.cells #[.int .i64 tab, .slice pa pan.length pc, .int .i64 hei, .slice ta top.length tc, .slice ba bot.length bc, .int .i64 slo, .bool false, .int .i64 off, .slice ta top.length tc, .slice ba bot.length bc] 124)).tr (Gr.al _ (.cells #[.int .i64 ll, .int .i64 lh, .int .i64 wl, .int .i64 wh, .int .i64 hl, .int .i64 hh, .int .i64 ol, .int .i64 oh, .int .i64 il, .int .i64 ih, .bool false] 133))).tr (Gr.al _ (.cells #[.int .i64 0, .int .i64 0] 37))).tr (Gr.al _ (.cells #[.int .i64 1, .int .i64 10000] 37))
 have hX := (((Box.new w [.int .i64 tab, .slice pa pan.length pc, .int .i64 hei, .slice ta top.length tc, .slice ba bot.length bc, .int .i64 slo, .bool false, .int .i64 off, .slice ta top.length tc, .slice ba bot.length bc] 124 w.heap.size rfl).keep (Gr.al _ (.cells #[.int .i64 ll, .int .i64 lh, .int .i64 wl, .int .i64 wh, .int .i64 hl, .int .i64 hh, .int .i64 ol, .int .i64 oh, .int .i64 il, .int .i64 ih, .bool false] 133))).keep (Gr.al _ (.cells #[.int .i64 0, .int .i64 0] 37))).keep (Gr.al _ (.cells #[.int .i64 1, .int .i64 10000] 37))
 have hW := ((Box.new (w.alloc (.cells #[.int .i64 tab, .slice pa pan.length pc, .int .i64 hei, .slice ta top.length tc, .slice ba bot.length bc, .int .i64 slo, .bool false, .int .i64 off, .slice ta top.length tc, .slice ba bot.length bc] 124)) [.int .i64 ll, .int .i64 lh, .int .i64 wl, .int .i64 wh, .int .i64 hl, .int .i64 hh, .int .i64 ol, .int .i64 oh, .int .i64 il, .int .i64 ih, .bool false] 133 (w.heap.size + 1) (by simp)).keep (Gr.al _ (.cells #[.int .i64 0, .int .i64 0] 37))).keep (Gr.al _ (.cells #[.int .i64 1, .int .i64 10000] 37))
 have oR := (Own.new ((w.alloc (.cells #[.int .i64 tab, .slice pa pan.length pc, .int .i64 hei, .slice ta top.length tc, .slice ba bot.length bc, .int .i64 slo, .bool false, .int .i64 off, .slice ta top.length tc, .slice ba bot.length bc] 124)).alloc (.cells #[.int .i64 ll, .int .i64 lh, .int .i64 wl, .int .i64 wh, .int .i64 hl, .int .i64 hh, .int .i64 ol, .int .i64 oh, .int .i64 il, .int .i64 ih, .bool false] 133)) [.int .i64 0, .int .i64 0] 37 (w.heap.size + 1 + 1) (by simp)).keep (Gr.al _ (.cells #[.int .i64 1, .int .i64 10000] 37))
 have hA := Own.new (((w.alloc (.cells #[.int .i64 tab, .slice pa pan.length pc, .int .i64 hei, .slice ta top.length tc, .slice ba bot.length bc, .int .i64 slo, .bool false, .int .i64 off, .slice ta top.length tc, .slice ba bot.length bc] 124)).alloc (.cells #[.int .i64 ll, .int .i64 lh, .int .i64 wl, .int .i64 wh, .int .i64 hl, .int .i64 hh, .int .i64 ol, .int .i64 oh, .int .i64 il, .int .i64 ih, .bool false] 133)).alloc (.cells #[.int .i64 0, .int .i64 0] 37)) [.int .i64 1, .int .i64 10000] 37 (w.heap.size + 1 + 1 + 1) (by simp)
 have q6 := hX.2 6 _ rfl
 have p10 := hW.2 10 _ rfl
 have HG := Lib.hid G
 have HH := Lib.hid H
 obtain ⟨f0, f1, f2, f3⟩ := flatS_bd (opn := false) G h2 h3 hk
 obtain ⟨i0, i1, i2, i3⟩ := inS_bd H k
 obtain ⟨m0, m1⟩ := tdiv_bd (lostL_12 k false) (x := (flatS off hei slo pan top bot false k).lo - (inS ll lh wl wh hl hh ol oh il ih k).hi) (by omega) (by omega)
 obtain ⟨r0, r1⟩ := tdiv_bd (lostL_12 k false) (x := (flatS off hei slo pan top bot false k).lo - (inS ll lh wl wh hl hh ol oh il ih k).lo) (by omega) (by omega)
 have hz2 : ¬ lostL k false = 0 := by rcases lostL_12 k false with e | e <;> rw [e] <;> decide
 clear G H
 go_enter Try.func84, Try.ntmps84
 go_upto_region 6 with fail
 clear q6 p10
 refine wp_abs (fun W => Gr w W ∧ Box W w.heap.size [.int .i64 tab, .slice pa pan.length pc, .int .i64 hei, .slice ta top.length tc, .slice ba bot.length bc, .int .i64 slo, .bool false, .int .i64 off, .slice ta top.length tc, .slice ba bot.length bc] ∧ Box W (w.heap.size + 1) [.int .i64 ll, .int .i64 lh, .int .i64 wl, .int .i64 wh, .int .i64 hl, .int .i64 hh, .int .i64 ol, .int .i64 oh, .int .i64 il, .int .i64 ih, .bool false] ∧ Own W (w.heap.size + 1 + 1) [.int .i64 0, .int .i64 0] ∧ Own W (w.heap.size + 1 + 1 + 1) [.int .i64 1, .int .i64 10000]) ⟨gg, hX, hW, oR, hA⟩ ?_
 clear gg hX hW oR hA
 rintro W ⟨gg, hX, hW, oR, hA⟩
 have oR0 := oR
 have hA0 := hA
 refine (show (∀ s : Nat → Value, Code.wp Try.prog _ _ ⟨#[s 0, s 1, .int .i64 k, .pointer (some ⟨w.heap.size, 0, none⟩), .pointer (some ⟨(w.heap.size + 1), 0, none⟩), s 5, .pointer (some ⟨(w.heap.size + 1 + 1), 0, none⟩), .pointer (some ⟨(w.heap.size + 1 + 1 + 1), 0, none⟩), undef, undef, undef, s 11, s 12, s 13, s 14, s 15, s 16, s 17, s 18, s 19, s 20, s 21, s 22, s 23, s 24, s 25, s 26, s 27, s 28, s 29, s 30, s 31, s 32, s 33, s 34, s 35, s 36, s 37, s 38, s 39, s 40, undef, undef, undef, undef, undef, undef, undef, undef, undef, undef, undef, undef, undef, undef, undef, undef, undef, undef, undef, undef, undef, undef, undef, undef, undef, undef], []⟩ _) → _ from fun h => h ((fun l : List Value => fun i => l.getD i undef) [_, _, undef, undef, undef, _, undef, undef, undef, undef, undef, _, _, _, _, _, _, _, _, _, _, _, _, _, _, _, _, _, _, _, _, _, _, _, _, _, _, _, _, _, _])) ?_
 intro s
 dsimp only
 refine wp_region_facts 11 [(2, 0), (2, 1), (3, 2), (6, 4), (6, 5), (9, 7), (9, 8)] (fun x => ⟨#[s 0, s 1, .int .i64 k, .pointer (some ⟨w.heap.size, 0, none⟩), .pointer (some ⟨(w.heap.size + 1), 0, none⟩), s 5, .pointer (some ⟨(w.heap.size + 1 + 1), 0, none⟩), .pointer (some ⟨(w.heap.size + 1 + 1 + 1), 0, none⟩), undef, undef, x 10, s 11, s 12, s 13, s 14, s 15, s 16, s 17, s 18, s 19, s 20, s 21, s 22, s 23, s 24, s 25, s 26, s 27, s 28, s 29, s 30, s 31, s 32, s 33, s 34, s 35, s 36, s 37, s 38, s 39, s 40, x 0, x 1, x 2, x 3, x 4, x 5, x 6, x 7, x 8, x 9, undef, undef, undef, undef, undef, undef, undef, undef, undef, undef, undef, undef, undef, undef, undef, undef], []⟩) (fun _ => undef) [fun _ x => x = .agg #[.int .i64 tab, .slice pa pan.length pc, .int .i64 hei, .slice ta top.length tc, .slice ba bot.length bc, .int .i64 slo, .bool false, .int .i64 off, .slice ta top.length tc, .slice ba bot.length bc], fun _ x => x = .int .i64 k, fun _ x => x = .agg #[.int .i64 (flatS off hei slo pan top bot false k).lo, .int .i64 (flatS off hei slo pan top bot false k).hi], fun _ x => x = .int .i64 (flatS off hei slo pan top bot false k).lo, fun _ x => x = .agg #[.int .i64 tab, .slice pa pan.length pc, .int .i64 hei, .slice ta top.length tc, .slice ba bot.length bc, .int .i64 slo, .bool false, .int .i64 off, .slice ta top.length tc, .slice ba bot.length bc], fun _ x => x = .int .i64 k, fun _ x => x = .int .i64 (lostL k false), fun _ x => x = .agg #[.int .i64 ll, .int .i64 lh, .int .i64 wl, .int .i64 wh, .int .i64 hl, .int .i64 hh, .int .i64 ol, .int .i64 oh, .int .i64 il, .int .i64 ih, .bool false], fun _ x => x = .int .i64 k, fun _ x => x = .agg #[.int .i64 (inS ll lh wl wh hl hh ol oh il ih k).lo, .int .i64 (inS ll lh wl wh hl hh ol oh il ih k).hi], fun v x => ∃ b, x = .pointer (some ⟨b, 0, none⟩) ∧ W.heap.size ≤ b ∧ Own v b [.int .i64 0, .int .i64 0]] (by rfl) (by kernel_rfl) (by kernel_rfl) (by kernel_rfl) (stays_cons (Stays.eq _) (stays_cons (Stays.eq _) (stays_cons (Stays.eq _) (stays_cons (Stays.eq _) (stays_cons (Stays.eq _) (stays_cons (Stays.eq _) (stays_cons (Stays.eq _) (stays_cons (Stays.eq _) (stays_cons (Stays.eq _) (stays_cons (Stays.eq _) (stays_cons ((show Stays (fun v x => ∃ b, x = .pointer (some ⟨b, 0, none⟩) ∧ W.heap.size ≤ b ∧ Own v b [.int .i64 0, .int .i64 0]) from fun v v' x g ⟨b, e, h, o⟩ => ⟨b, e, h, o.keep g⟩)) stays_nil))))))))))) ?step6 ?fin6
 case step6 =>
  rintro i hi x v gv hd K hK
  have hi8 : i = 0 ∨ i = 1 ∨ i = 2 ∨ i = 3 ∨ i = 4 ∨ i = 5 ∨ i = 6 ∨ i = 7 ∨ i = 8 ∨ i = 9 ∨ i = 10 := by omega
  rcases hi8 with rfl | rfl | rfl | rfl | rfl | rfl | rfl | rfl | rfl | rfl | rfl
  ·dsimp only [upd, Nat.reduceBEq, cond_true, cond_false]
   refine wpOp_step rfl (fun K' hK' => ?_)
   rw [if_pos (by rfl)]
   refine wp_load_mid 124 _ rfl w.heap.size 0 (by rfl) [.int .i64 tab, .slice pa pan.length pc, .int .i64 hei, .slice ta top.length tc, .slice ba bot.length bc, .int .i64 slo, .bool false, .int .i64 off, .slice ta top.length tc, .slice ba bot.length bc] _ (fun j u hu => by rw [Nat.zero_add]; exact (hX.keep gv).2 j u hu) Try.underlying124 rfl (by kernel_rfl) ?_
   exact hK' _ _ (hK _ _ (Below.refl _ _) (at_of rfl (rfl)))
  ·dsimp only [upd, Nat.reduceBEq, cond_true, cond_false]
   refine wpOp_step rfl (fun K' hK' => ?_)
   go_simp
   exact hK' _ _ (hK _ _ (Below.refl _ _) (at_of rfl (rfl)))
  ·obtain ⟨x, rfl⟩ := upd_of (show x 0 = .agg #[.int .i64 tab, .slice pa pan.length pc, .int .i64 hei, .slice ta top.length tc, .slice ba bot.length bc, .int .i64 slo, .bool false, .int .i64 off, .slice ta top.length tc, .slice ba bot.length bc] from hd 0 _ (by simp) rfl)
   obtain ⟨x, rfl⟩ := upd_of (show x 1 = .int .i64 k from hd 1 _ (by simp) rfl)
   dsimp only [upd, Nat.reduceBEq, cond_true, cond_false]
   refine wpOp_step rfl (fun K' hK' => ?_)
   go_simp
   refine (flatS_all _ _ _ _ _ _ _ _ _ _ _ _ _ _ h2 h3 k HG.out hk v (hp.grow (gg.tr gv)) (ht.grow (gg.tr gv)) (hb.grow (gg.tr gv))).mono ?_
   rintro e v' ⟨rfl, hg⟩
   exact hK' _ _ (hK _ _ hg (at_of rfl (rfl)))
  ·obtain ⟨x, rfl⟩ := upd_of (show x 2 = .agg #[.int .i64 (flatS off hei slo pan top bot false k).lo, .int .i64 (flatS off hei slo pan top bot false k).hi] from hd 2 _ (by simp) rfl)
   dsimp only [upd, Nat.reduceBEq, cond_true, cond_false]
   refine wpOp_step rfl (fun K' hK' => ?_)
   have q := fieldSp_0 (.int .i64 (flatS off hei slo pan top bot false k).lo) (.int .i64 (flatS off hei slo pan top bot false k).hi) v
   go_simp
   exact hK' _ _ (hK _ _ (Below.refl _ _) (at_of rfl (rfl)))
  ·dsimp only [upd, Nat.reduceBEq, cond_true, cond_false]
   refine wpOp_step rfl (fun K' hK' => ?_)
   rw [if_pos (by rfl)]
   refine wp_load_mid 124 _ rfl w.heap.size 0 (by rfl) [.int .i64 tab, .slice pa pan.length pc, .int .i64 hei, .slice ta top.length tc, .slice ba bot.length bc, .int .i64 slo, .bool false, .int .i64 off, .slice ta top.length tc, .slice ba bot.length bc] _ (fun j u hu => by rw [Nat.zero_add]; exact (hX.keep gv).2 j u hu) Try.underlying124 rfl (by kernel_rfl) ?_
   exact hK' _ _ (hK _ _ (Below.refl _ _) (at_of rfl (rfl)))
  ·dsimp only [upd, Nat.reduceBEq, cond_true, cond_false]
   refine wpOp_step rfl (fun K' hK' => ?_)
   go_simp
   exact hK' _ _ (hK _ _ (Below.refl _ _) (at_of rfl (rfl)))
  ·obtain ⟨x, rfl⟩ := upd_of (show x 4 = .agg #[.int .i64 tab, .slice pa pan.length pc, .int .i64 hei, .slice ta top.length tc, .slice ba bot.length bc, .int .i64 slo, .bool false, .int .i64 off, .slice ta top.length tc, .slice ba bot.length bc] from hd 4 _ (by simp) rfl)
   obtain ⟨x, rfl⟩ := upd_of (show x 5 = .int .i64 k from hd 5 _ (by simp) rfl)
   dsimp only [upd, Nat.reduceBEq, cond_true, cond_false]
   refine wpOp_step rfl (fun K' hK' => ?_)
   go_simp
   refine (lost_any _ _ _ _ _ _ _ _ _ _ _ _ _ _ k v).mono ?_
   rintro e v' ⟨rfl, hg⟩
   exact hK' _ _ (hK _ _ hg (at_of rfl (rfl)))
  ·dsimp only [upd, Nat.reduceBEq, cond_true, cond_false]
   refine wpOp_step rfl (fun K' hK' => ?_)
   rw [if_pos (by rfl)]
   refine wp_load_mid 133 _ rfl (w.heap.size + 1) 0 (by rfl) [.int .i64 ll, .int .i64 lh, .int .i64 wl, .int .i64 wh, .int .i64 hl, .int .i64 hh, .int .i64 ol, .int .i64 oh, .int .i64 il, .int .i64 ih, .bool false] _ (fun j u hu => by rw [Nat.zero_add]; exact (hW.keep gv).2 j u hu) Try.underlying133 rfl (by kernel_rfl) ?_
   exact hK' _ _ (hK _ _ (Below.refl _ _) (at_of rfl (rfl)))
  ·dsimp only [upd, Nat.reduceBEq, cond_true, cond_false]
   refine wpOp_step rfl (fun K' hK' => ?_)
   go_simp
   exact hK' _ _ (hK _ _ (Below.refl _ _) (at_of rfl (rfl)))
  ·obtain ⟨x, rfl⟩ := upd_of (show x 7 = .agg #[.int .i64 ll, .int .i64 lh, .int .i64 wl, .int .i64 wh, .int .i64 hl, .int .i64 hh, .int .i64 ol, .int .i64 oh, .int .i64 il, .int .i64 ih, .bool false] from hd 7 _ (by simp) rfl)
   obtain ⟨x, rfl⟩ := upd_of (show x 8 = .int .i64 k from hd 8 _ (by simp) rfl)
   dsimp only [upd, Nat.reduceBEq, cond_true, cond_false]
   refine wpOp_step rfl (fun K' hK' => ?_)
   go_simp
   refine (in_any ll lh wl wh hl hh ol oh il ih false HH.out k hk v).mono ?_
   rintro e v' ⟨rfl, hg⟩
   exact hK' _ _ (hK _ _ hg (at_of rfl (rfl)))
  ·dsimp only [upd, Nat.reduceBEq, cond_true, cond_false]
   refine wpOp_step rfl (fun K' hK' => ?_)
   go_simp
   have hg := Gr.al v (.cells (List.toArray [.int .i64 0, .int .i64 0]) 37)
   exact hK' _ _ (hK _ _ hg (at_of rfl (⟨v.heap.size, rfl, gv.size, Own.new v [.int .i64 0, .int .i64 0] 37 v.heap.size rfl⟩)))
 case fin6 =>
  rintro x v gv hd
  obtain ⟨x, rfl⟩ := upd_of (show x 3 = .int .i64 (flatS off hei slo pan top bot false k).lo from hd 3 _ (by omega) rfl)
  obtain ⟨x, rfl⟩ := upd_of (show x 6 = .int .i64 (lostL k false) from hd 6 _ (by omega) rfl)
  obtain ⟨x, rfl⟩ := upd_of (show x 9 = .agg #[.int .i64 (inS ll lh wl wh hl hh ol oh il ih k).lo, .int .i64 (inS ll lh wl wh hl hh ol oh il ih k).hi] from hd 9 _ (by omega) rfl)
  obtain ⟨b10, e10, hb10, ow10⟩ := hd 10 _ (by omega) rfl
  obtain ⟨x, rfl⟩ := upd_of (show x 10 = .pointer (some ⟨b10, 0, none⟩) from e10)
  clear hd
  show wpList Try.prog _ _ (List.drop 11 _) (⟨#[_, _, _, _, _, _, _, _, _, _, .pointer (some ⟨b10, 0, none⟩), _, _, _, _, _, _, _, _, _, _, _, _, _, _, _, _, _, _, _, _, _, _, _, _, _, _, _, _, _, _, x 0, x 1, x 2, .int .i64 (flatS off hei slo pan top bot false k).lo, x 4, x 5, .int .i64 (lostL k false), x 7, x 8, .agg #[.int .i64 (inS ll lh wl wh hl hh ol oh il ih k).lo, .int .i64 (inS ll lh wl wh hl hh ol oh il ih k).hi], _, _, _, _, _, _, _, _, _, _, _, _, _, _, _, _], []⟩ : Act) v
  simp only [List.drop_succ_cons, List.drop_zero]
  have gW := gg.tr gv
  have hX := hX.keep gv
  have oR := oR.keep gv
  have hA := hA.keep gv
  have hbw := gg.size
  have hbX := oR.1.1
  have hbR := (show b10 ≠ (w.heap.size + 1 + 1) by have := oR0.1.1; omega)
  have hbA := (show b10 ≠ (w.heap.size + 1 + 1 + 1) by have := hA0.1.1; omega)
  obtain ⟨u0, u1⟩ := ow10.1.c2
  have z0 := ow10.2 0
  have z1 := ow10.2 1
  clear gg gv hW
  go_upto_region 7 with fail
  refine wp_abs (fun V => Gr w V ∧ Own V (w.heap.size + 1 + 1) [.int .i64 0, .int .i64 0] ∧ Own V (w.heap.size + 1 + 1 + 1) [.int .i64 1, .int .i64 10000] ∧ Box V b10 [.int .i64 (inS ll lh wl wh hl hh ol oh il ih k).lo, .int .i64 (inS ll lh wl wh hl hh ol oh il ih k).hi]) ⟨(gW.setCell (by simp; omega) _).setCell (by simp; omega) _, (oR.other (by omega)).other (by omega), (hA.other (by omega)).other (by omega), ((ow10.set (i := 0) (by simp)).set (i := 1) (by simp)).1⟩ ?_
  clear gW oR hA ow10 u0 u1 z0 z1 hX
  rintro V ⟨gg, oR, hA, hI⟩
  have v0 : IntKind.i64.wrap ((flatS off hei slo pan top bot false k).lo - (inS ll lh wl wh hl hh ol oh il ih k).hi) = (flatS off hei slo pan top bot false k).lo - (inS ll lh wl wh hl hh ol oh il ih k).hi := IntWalk.i64_in _ (by omega)
  have v1 : IntKind.i64.wrap ((flatS off hei slo pan top bot false k).lo - (inS ll lh wl wh hl hh ol oh il ih k).lo) = (flatS off hei slo pan top bot false k).lo - (inS ll lh wl wh hl hh ol oh il ih k).lo := IntWalk.i64_in _ (by omega)
  have v2 : IntKind.i64.wrap (((flatS off hei slo pan top bot false k).lo - (inS ll lh wl wh hl hh ol oh il ih k).hi).tdiv (lostL k false)) = ((flatS off hei slo pan top bot false k).lo - (inS ll lh wl wh hl hh ol oh il ih k).hi).tdiv (lostL k false) := IntWalk.i64_in _ (by omega)
  have v3 : IntKind.i64.wrap (((flatS off hei slo pan top bot false k).lo - (inS ll lh wl wh hl hh ol oh il ih k).lo).tdiv (lostL k false)) = ((flatS off hei slo pan top bot false k).lo - (inS ll lh wl wh hl hh ol oh il ih k).lo).tdiv (lostL k false) := IntWalk.i64_in _ (by omega)
  refine (show (∀ s : Nat → Value, Code.wp Try.prog _ _ ⟨#[s 0, s 1, s 2, .pointer (some ⟨w.heap.size, 0, none⟩), .pointer (some ⟨(w.heap.size + 1), 0, none⟩), s 5, .pointer (some ⟨(w.heap.size + 1 + 1), 0, none⟩), .pointer (some ⟨(w.heap.size + 1 + 1 + 1), 0, none⟩), .int .i64 (flatS off hei slo pan top bot false k).lo, .int .i64 (lostL k false), .pointer (some ⟨b10, 0, none⟩), s 11, s 12, s 13, s 14, s 15, s 16, s 17, s 18, s 19, s 20, s 21, s 22, s 23, s 24, s 25, s 26, s 27, s 28, s 29, s 30, s 31, s 32, s 33, s 34, s 35, s 36, s 37, s 38, s 39, s 40, s 41, s 42, s 43, s 44, s 45, s 46, s 47, s 48, s 49, s 50, undef, undef, undef, undef, undef, undef, undef, undef, undef, undef, undef, undef, undef, undef, undef, undef], []⟩ _) → _ from fun h => h ((fun l : List Value => fun i => l.getD i undef) [_, _, _, undef, undef, _, undef, undef, undef, undef, undef, _, _, _, _, _, _, _, _, _, _, _, _, _, _, _, _, _, _, _, _, _, _, _, _, _, _, _, _, _, _, _, _, _, _, _, _, _, _, _, _])) ?_
  clear s
  intro s
  dsimp only
  refine wp_region_facts 16 [(3, 2), (4, 1), (4, 3), (6, 4), (6, 5), (9, 8), (10, 7), (10, 9), (12, 10), (12, 11), (13, 6), (13, 12), (14, 13), (15, 0), (15, 14)] (fun x => ⟨#[s 0, s 1, s 2, .pointer (some ⟨w.heap.size, 0, none⟩), .pointer (some ⟨(w.heap.size + 1), 0, none⟩), s 5, .pointer (some ⟨(w.heap.size + 1 + 1), 0, none⟩), .pointer (some ⟨(w.heap.size + 1 + 1 + 1), 0, none⟩), .int .i64 (flatS off hei slo pan top bot false k).lo, .int .i64 (lostL k false), .pointer (some ⟨b10, 0, none⟩), s 11, s 12, s 13, s 14, s 15, s 16, s 17, s 18, s 19, s 20, s 21, s 22, s 23, s 24, s 25, s 26, s 27, s 28, s 29, s 30, s 31, s 32, s 33, s 34, s 35, s 36, s 37, s 38, s 39, s 40, s 41, s 42, s 43, s 44, s 45, s 46, s 47, s 48, s 49, s 50, x 0, x 1, x 2, x 3, x 4, x 5, x 6, x 7, x 8, x 9, x 10, x 11, x 12, x 13, x 14, x 15], []⟩) (fun _ => undef) [fun _ x => x = .agg #[.int .i64 1, .int .i64 10000], fun _ x => x = .int .i64 (flatS off hei slo pan top bot false k).lo, fun _ x => x = .pointer (some ⟨b10, 1, none⟩), fun _ x => x = .int .i64 (inS ll lh wl wh hl hh ol oh il ih k).hi, fun _ x => x = .int .i64 ((flatS off hei slo pan top bot false k).lo - (inS ll lh wl wh hl hh ol oh il ih k).hi), fun _ x => x = .int .i64 (lostL k false), fun _ x => x = .int .i64 (((flatS off hei slo pan top bot false k).lo - (inS ll lh wl wh hl hh ol oh il ih k).hi).tdiv (lostL k false)), fun _ x => x = .int .i64 (flatS off hei slo pan top bot false k).lo, fun _ x => x = .pointer (some ⟨b10, 0, none⟩), fun _ x => x = .int .i64 (inS ll lh wl wh hl hh ol oh il ih k).lo, fun _ x => x = .int .i64 ((flatS off hei slo pan top bot false k).lo - (inS ll lh wl wh hl hh ol oh il ih k).lo), fun _ x => x = .int .i64 (lostL k false), fun _ x => x = .int .i64 (((flatS off hei slo pan top bot false k).lo - (inS ll lh wl wh hl hh ol oh il ih k).lo).tdiv (lostL k false)), fun _ x => x = .agg #[.int .i64 (((flatS off hei slo pan top bot false k).lo - (inS ll lh wl wh hl hh ol oh il ih k).hi).tdiv (lostL k false)), .int .i64 (((flatS off hei slo pan top bot false k).lo - (inS ll lh wl wh hl hh ol oh il ih k).lo).tdiv (lostL k false))], fun v x => ∃ a, x = .slice a 1 1 ∧ SRow v a [⟨((flatS off hei slo pan top bot false k).lo - (inS ll lh wl wh hl hh ol oh il ih k).hi).tdiv (lostL k false), ((flatS off hei slo pan top bot false k).lo - (inS ll lh wl wh hl hh ol oh il ih k).lo).tdiv (lostL k false)⟩], fun _ x => x = .agg #[.int .i64 (max 1 (((flatS off hei slo pan top bot false k).lo - (inS ll lh wl wh hl hh ol oh il ih k).hi).tdiv (lostL k false))), .int .i64 (min 10000 (((flatS off hei slo pan top bot false k).lo - (inS ll lh wl wh hl hh ol oh il ih k).lo).tdiv (lostL k false)))]] (by rfl) (by kernel_rfl) (by kernel_rfl) (by kernel_rfl) (stays_cons (Stays.eq _) (stays_cons (Stays.eq _) (stays_cons (Stays.eq _) (stays_cons (Stays.eq _) (stays_cons (Stays.eq _) (stays_cons (Stays.eq _) (stays_cons (Stays.eq _) (stays_cons (Stays.eq _) (stays_cons (Stays.eq _) (stays_cons (Stays.eq _) (stays_cons (Stays.eq _) (stays_cons (Stays.eq _) (stays_cons (Stays.eq _) (stays_cons (Stays.eq _) (stays_cons ((show Stays (fun v x => ∃ a, x = .slice a 1 1 ∧ SRow v a [⟨((flatS off hei slo pan top bot false k).lo - (inS ll lh wl wh hl hh ol oh il ih k).hi).tdiv (lostL k false), ((flatS off hei slo pan top bot false k).lo - (inS ll lh wl wh hl hh ol oh il ih k).lo).tdiv (lostL k false)⟩]) from fun v v' x g ⟨a, e, r⟩ => ⟨a, e, r.grow g⟩)) (stays_cons (Stays.eq _) stays_nil)))))))))))))))) ?step7 ?fin7
  case step7 =>
   rintro i hi x v gv hd K hK
   have hi8 : i = 0 ∨ i = 1 ∨ i = 2 ∨ i = 3 ∨ i = 4 ∨ i = 5 ∨ i = 6 ∨ i = 7 ∨ i = 8 ∨ i = 9 ∨ i = 10 ∨ i = 11 ∨ i = 12 ∨ i = 13 ∨ i = 14 ∨ i = 15 := by omega
   rcases hi8 with rfl | rfl | rfl | rfl | rfl | rfl | rfl | rfl | rfl | rfl | rfl | rfl | rfl | rfl | rfl | rfl
   ·dsimp only [upd, Nat.reduceBEq, cond_true, cond_false]
    refine wpOp_step rfl (fun K' hK' => ?_)
    rw [if_pos (by rfl)]
    refine wp_load_mid 37 _ rfl (w.heap.size + 1 + 1 + 1) 0 (by rfl) [.int .i64 1, .int .i64 10000] _ (fun j u hu => by rw [Nat.zero_add]; exact (hA.1.keep gv).2 j u hu) Try.underlying37 rfl (by kernel_rfl) ?_
    exact hK' _ _ (hK _ _ (Below.refl _ _) (at_of rfl (rfl)))
   ·dsimp only [upd, Nat.reduceBEq, cond_true, cond_false]
    refine wpOp_step rfl (fun K' hK' => ?_)
    go_simp
    exact hK' _ _ (hK _ _ (Below.refl _ _) (at_of rfl (rfl)))
   ·dsimp only [upd, Nat.reduceBEq, cond_true, cond_false]
    refine wpOp_step rfl (fun K' hK' => ?_)
    go_simp
    exact hK' _ _ (hK _ _ (Below.refl _ _) (at_of rfl (rfl)))
   ·obtain ⟨x, rfl⟩ := upd_of (show x 2 = .pointer (some ⟨b10, 1, none⟩) from hd 2 _ (by simp) rfl)
    dsimp only [upd, Nat.reduceBEq, cond_true, cond_false]
    refine wpOp_step rfl (fun K' hK' => ?_)
    have q := (hI.keep gv).2 1 _ rfl
    go_simp
    exact hK' _ _ (hK _ _ (Below.refl _ _) (at_of rfl (rfl)))
   ·obtain ⟨x, rfl⟩ := upd_of (show x 1 = .int .i64 (flatS off hei slo pan top bot false k).lo from hd 1 _ (by simp) rfl)
    obtain ⟨x, rfl⟩ := upd_of (show x 3 = .int .i64 (inS ll lh wl wh hl hh ol oh il ih k).hi from hd 3 _ (by simp) rfl)
    dsimp only [upd, Nat.reduceBEq, cond_true, cond_false]
    refine wpOp_step rfl (fun K' hK' => ?_)
    go_simp
    exact hK' _ _ (hK _ _ (Below.refl _ _) (at_of rfl (rfl)))
   ·dsimp only [upd, Nat.reduceBEq, cond_true, cond_false]
    refine wpOp_step rfl (fun K' hK' => ?_)
    go_simp
    exact hK' _ _ (hK _ _ (Below.refl _ _) (at_of rfl (rfl)))
   ·obtain ⟨x, rfl⟩ := upd_of (show x 4 = .int .i64 ((flatS off hei slo pan top bot false k).lo - (inS ll lh wl wh hl hh ol oh il ih k).hi) from hd 4 _ (by simp) rfl)
    obtain ⟨x, rfl⟩ := upd_of (show x 5 = .int .i64 (lostL k false) from hd 5 _ (by simp) rfl)
    dsimp only [upd, Nat.reduceBEq, cond_true, cond_false]
    refine wpOp_step rfl (fun K' hK' => ?_)
    go_simp
    exact hK' _ _ (hK _ _ (Below.refl _ _) (at_of rfl (rfl)))
   ·dsimp only [upd, Nat.reduceBEq, cond_true, cond_false]
    refine wpOp_step rfl (fun K' hK' => ?_)
    go_simp
    exact hK' _ _ (hK _ _ (Below.refl _ _) (at_of rfl (rfl)))
   ·dsimp only [upd, Nat.reduceBEq, cond_true, cond_false]
    refine wpOp_step rfl (fun K' hK' => ?_)
    go_simp
    exact hK' _ _ (hK _ _ (Below.refl _ _) (at_of rfl (rfl)))
   ·obtain ⟨x, rfl⟩ := upd_of (show x 8 = .pointer (some ⟨b10, 0, none⟩) from hd 8 _ (by simp) rfl)
    dsimp only [upd, Nat.reduceBEq, cond_true, cond_false]
    refine wpOp_step rfl (fun K' hK' => ?_)
    have q := (hI.keep gv).2 0 _ rfl
    go_simp
    exact hK' _ _ (hK _ _ (Below.refl _ _) (at_of rfl (rfl)))
   ·obtain ⟨x, rfl⟩ := upd_of (show x 7 = .int .i64 (flatS off hei slo pan top bot false k).lo from hd 7 _ (by simp) rfl)
    obtain ⟨x, rfl⟩ := upd_of (show x 9 = .int .i64 (inS ll lh wl wh hl hh ol oh il ih k).lo from hd 9 _ (by simp) rfl)
    dsimp only [upd, Nat.reduceBEq, cond_true, cond_false]
    refine wpOp_step rfl (fun K' hK' => ?_)
    go_simp
    exact hK' _ _ (hK _ _ (Below.refl _ _) (at_of rfl (rfl)))
   ·dsimp only [upd, Nat.reduceBEq, cond_true, cond_false]
    refine wpOp_step rfl (fun K' hK' => ?_)
    go_simp
    exact hK' _ _ (hK _ _ (Below.refl _ _) (at_of rfl (rfl)))
   ·obtain ⟨x, rfl⟩ := upd_of (show x 10 = .int .i64 ((flatS off hei slo pan top bot false k).lo - (inS ll lh wl wh hl hh ol oh il ih k).lo) from hd 10 _ (by simp) rfl)
    obtain ⟨x, rfl⟩ := upd_of (show x 11 = .int .i64 (lostL k false) from hd 11 _ (by simp) rfl)
    dsimp only [upd, Nat.reduceBEq, cond_true, cond_false]
    refine wpOp_step rfl (fun K' hK' => ?_)
    go_simp
    exact hK' _ _ (hK _ _ (Below.refl _ _) (at_of rfl (rfl)))
   ·obtain ⟨x, rfl⟩ := upd_of (show x 6 = .int .i64 (((flatS off hei slo pan top bot false k).lo - (inS ll lh wl wh hl hh ol oh il ih k).hi).tdiv (lostL k false)) from hd 6 _ (by simp) rfl)
    obtain ⟨x, rfl⟩ := upd_of (show x 12 = .int .i64 (((flatS off hei slo pan top bot false k).lo - (inS ll lh wl wh hl hh ol oh il ih k).lo).tdiv (lostL k false)) from hd 12 _ (by simp) rfl)
    dsimp only [upd, Nat.reduceBEq, cond_true, cond_false]
    refine wpOp_step rfl (fun K' hK' => ?_)
    go_simp
    exact hK' _ _ (hK _ _ (Below.refl _ _) (at_of rfl (rfl)))
   ·obtain ⟨x, rfl⟩ := upd_of (show x 13 = .agg #[.int .i64 (((flatS off hei slo pan top bot false k).lo - (inS ll lh wl wh hl hh ol oh il ih k).hi).tdiv (lostL k false)), .int .i64 (((flatS off hei slo pan top bot false k).lo - (inS ll lh wl wh hl hh ol oh il ih k).lo).tdiv (lostL k false))] from hd 13 _ (by simp) rfl)
    dsimp only [upd, Nat.reduceBEq, cond_true, cond_false]
    refine wpOp_step rfl (fun K' hK' => ?_)
    go_simp
    have hg := Gr.al v (.cells (List.toArray [.int .i64 (((flatS off hei slo pan top bot false k).lo - (inS ll lh wl wh hl hh ol oh il ih k).hi).tdiv (lostL k false)), .int .i64 (((flatS off hei slo pan top bot false k).lo - (inS ll lh wl wh hl hh ol oh il ih k).lo).tdiv (lostL k false))]) 37)
    exact hK' _ _ (hK _ _ hg (at_of rfl (⟨_, rfl, SRow.new1 v 37 (((flatS off hei slo pan top bot false k).lo - (inS ll lh wl wh hl hh ol oh il ih k).hi).tdiv (lostL k false)) (((flatS off hei slo pan top bot false k).lo - (inS ll lh wl wh hl hh ol oh il ih k).lo).tdiv (lostL k false)) v.heap.size rfl⟩)))
   ·obtain ⟨x, rfl⟩ := upd_of (show x 0 = .agg #[.int .i64 1, .int .i64 10000] from hd 0 _ (by simp) rfl)
    obtain ⟨a14, e14, r14⟩ := hd 14 _ (by simp) rfl
    obtain ⟨x, rfl⟩ := upd_of (show x 14 = .slice a14 1 1 from e14)
    dsimp only [upd, Nat.reduceBEq, cond_true, cond_false]
    refine wpOp_step rfl (fun K' hK' => ?_)
    go_simp
    refine (meet_one ⟨1, 10000⟩ (((flatS off hei slo pan top bot false k).lo - (inS ll lh wl wh hl hh ol oh il ih k).hi).tdiv (lostL k false)) (((flatS off hei slo pan top bot false k).lo - (inS ll lh wl wh hl hh ol oh il ih k).lo).tdiv (lostL k false)) a14 1 v r14).mono ?_
    rintro e v' ⟨rfl, hg⟩
    exact hK' _ _ (hK _ _ hg (at_of rfl (rfl)))
  case fin7 =>
   rintro x v gv hd
   obtain ⟨x, rfl⟩ := upd_of (show x 15 = .agg #[.int .i64 (max 1 (((flatS off hei slo pan top bot false k).lo - (inS ll lh wl wh hl hh ol oh il ih k).hi).tdiv (lostL k false))), .int .i64 (min 10000 (((flatS off hei slo pan top bot false k).lo - (inS ll lh wl wh hl hh ol oh il ih k).lo).tdiv (lostL k false)))] from hd 15 _ (by omega) rfl)
   clear hd
   show wpList Try.prog _ _ (List.drop 16 _) (⟨#[_, _, _, _, _, _, _, _, _, _, _, _, _, _, _, _, _, _, _, _, _, _, _, _, _, _, _, _, _, _, _, _, _, _, _, _, _, _, _, _, _, _, _, _, _, _, _, _, _, _, _, x 0, x 1, x 2, x 3, x 4, x 5, x 6, x 7, x 8, x 9, x 10, x 11, x 12, x 13, x 14, .agg #[.int .i64 (max 1 (((flatS off hei slo pan top bot false k).lo - (inS ll lh wl wh hl hh ol oh il ih k).hi).tdiv (lostL k false))), .int .i64 (min 10000 (((flatS off hei slo pan top bot false k).lo - (inS ll lh wl wh hl hh ol oh il ih k).lo).tdiv (lostL k false)))]], []⟩ : Act) v
   simp only [List.drop_succ_cons, List.drop_zero]
   have ob := oR.keep gv
   have gW := gg.tr gv
   obtain ⟨u0, u1⟩ := ob.1.c2
   have z0 := ob.2 0
   have z1 := ob.2 1
   clear v0 v1 v2 v3
   go_wp2
   have o1 := ((ob.set (i := 0) (v := .int .i64 (max 1 (((flatS off hei slo pan top bot false k).lo - (inS ll lh wl wh hl hh ol oh il ih k).hi).tdiv (lostL k false)))) (by simp)).set (i := 1) (v := .int .i64 (min 10000 (((flatS off hei slo pan top bot false k).lo - (inS ll lh wl wh hl hh ol oh il ih k).lo).tdiv (lostL k false)))) (by simp)).1.c2
   obtain ⟨o10, o11⟩ := o1
   refine bodyPost_ret (v := .agg #[.int .i64 (max 1 (((flatS off hei slo pan top bot false k).lo - (inS ll lh wl wh hl hh ol oh il ih k).hi).tdiv (lostL k false))), .int .i64 (min 10000 (((flatS off hei slo pan top bot false k).lo - (inS ll lh wl wh hl hh ol oh il ih k).lo).tdiv (lostL k false)))]) (by simp [results, Try.results84, go_sem, o10, o11]) rfl ⟨rfl, ?_⟩
   exact (gW.setCell (by simp; omega) _).setCell (by simp; omega) _

set_option maxRecDepth 100000 in
set_option maxHeartbeats 4000000 in
theorem hold_tx (tab hei slo off : Int) (pan top bot : List Int) (pa ta ba : Option Addr) (pc tc bc : Nat) (wo : Bool) (ll lh wl wh hl hh ol oh il ih : Int) (k : Nat) (hk : k < 10) (G : ShK hei slo pan top bot k) (H : GoodWish ll lh wl wh hl hh ol oh il ih) (h2 : 0 ≤ off) (h3 : off ≤ 3000) (k5 : ((k : Int) == 5) = false) (k6 : ((k : Int) == 6) = false) (w : World) (hp : IRow w pa pan) (ht : IRow w ta top) (hb : IRow w ba bot) :
  Calls Try.prog 84 #[.agg #[.int .i64 tab, .slice pa pan.length pc, .int .i64 hei, .slice ta top.length tc, .slice ba bot.length bc, .int .i64 slo, .bool true, .int .i64 off, .slice ta top.length tc, .slice ba bot.length bc], .agg #[.int .i64 ll, .int .i64 lh, .int .i64 wl, .int .i64 wh, .int .i64 hl, .int .i64 hh, .int .i64 ol, .int .i64 oh, .int .i64 il, .int .i64 ih, .bool wo], .int .i64 k] w fun e w' => e = .returned (.agg #[.int .i64 (max 1 (((flatS off hei slo pan top bot true k).lo - (inS ll lh wl wh hl hh ol oh il ih k).hi).tdiv (lostL k true))), .int .i64 (min 10000 (((flatS off hei slo pan top bot true k).lo - (inS ll lh wl wh hl hh ol oh il ih k).lo).tdiv (lostL k true)))]) ∧ Gr w w' := by
 have gg := (((Gr.al w (.cells #[.int .i64 tab, .slice pa pan.length pc, .int .i64 hei, .slice ta top.length tc, .slice ba bot.length bc, .int .i64 slo, .bool true, .int .i64 off, .slice ta top.length tc, .slice ba bot.length bc] 124)).tr (Gr.al _ (.cells #[.int .i64 ll, .int .i64 lh, .int .i64 wl, .int .i64 wh, .int .i64 hl, .int .i64 hh, .int .i64 ol, .int .i64 oh, .int .i64 il, .int .i64 ih, .bool wo] 133))).tr (Gr.al _ (.cells #[.int .i64 0, .int .i64 0] 37))).tr (Gr.al _ (.cells #[.int .i64 1, .int .i64 10000] 37))
 have hX := (((Box.new w [.int .i64 tab, .slice pa pan.length pc, .int .i64 hei, .slice ta top.length tc, .slice ba bot.length bc, .int .i64 slo, .bool true, .int .i64 off, .slice ta top.length tc, .slice ba bot.length bc] 124 w.heap.size rfl).keep (Gr.al _ (.cells #[.int .i64 ll, .int .i64 lh, .int .i64 wl, .int .i64 wh, .int .i64 hl, .int .i64 hh, .int .i64 ol, .int .i64 oh, .int .i64 il, .int .i64 ih, .bool wo] 133))).keep (Gr.al _ (.cells #[.int .i64 0, .int .i64 0] 37))).keep (Gr.al _ (.cells #[.int .i64 1, .int .i64 10000] 37))
 have hW := ((Box.new (w.alloc (.cells #[.int .i64 tab, .slice pa pan.length pc, .int .i64 hei, .slice ta top.length tc, .slice ba bot.length bc, .int .i64 slo, .bool true, .int .i64 off, .slice ta top.length tc, .slice ba bot.length bc] 124)) [.int .i64 ll, .int .i64 lh, .int .i64 wl, .int .i64 wh, .int .i64 hl, .int .i64 hh, .int .i64 ol, .int .i64 oh, .int .i64 il, .int .i64 ih, .bool wo] 133 (w.heap.size + 1) (by simp)).keep (Gr.al _ (.cells #[.int .i64 0, .int .i64 0] 37))).keep (Gr.al _ (.cells #[.int .i64 1, .int .i64 10000] 37))
 have oR := (Own.new ((w.alloc (.cells #[.int .i64 tab, .slice pa pan.length pc, .int .i64 hei, .slice ta top.length tc, .slice ba bot.length bc, .int .i64 slo, .bool true, .int .i64 off, .slice ta top.length tc, .slice ba bot.length bc] 124)).alloc (.cells #[.int .i64 ll, .int .i64 lh, .int .i64 wl, .int .i64 wh, .int .i64 hl, .int .i64 hh, .int .i64 ol, .int .i64 oh, .int .i64 il, .int .i64 ih, .bool wo] 133)) [.int .i64 0, .int .i64 0] 37 (w.heap.size + 1 + 1) (by simp)).keep (Gr.al _ (.cells #[.int .i64 1, .int .i64 10000] 37))
 have hA := Own.new (((w.alloc (.cells #[.int .i64 tab, .slice pa pan.length pc, .int .i64 hei, .slice ta top.length tc, .slice ba bot.length bc, .int .i64 slo, .bool true, .int .i64 off, .slice ta top.length tc, .slice ba bot.length bc] 124)).alloc (.cells #[.int .i64 ll, .int .i64 lh, .int .i64 wl, .int .i64 wh, .int .i64 hl, .int .i64 hh, .int .i64 ol, .int .i64 oh, .int .i64 il, .int .i64 ih, .bool wo] 133)).alloc (.cells #[.int .i64 0, .int .i64 0] 37)) [.int .i64 1, .int .i64 10000] 37 (w.heap.size + 1 + 1 + 1) (by simp)
 have q6 := hX.2 6 _ rfl
 have p10 := hW.2 10 _ rfl
 have HG := Lib.hid G
 have HH := Lib.hid H
 obtain ⟨f0, f1, f2, f3⟩ := flatS_bd (opn := true) G h2 h3 hk
 obtain ⟨i0, i1, i2, i3⟩ := inS_bd H k
 obtain ⟨m0, m1⟩ := tdiv_bd (lostL_12 k true) (x := (flatS off hei slo pan top bot true k).lo - (inS ll lh wl wh hl hh ol oh il ih k).hi) (by omega) (by omega)
 obtain ⟨r0, r1⟩ := tdiv_bd (lostL_12 k true) (x := (flatS off hei slo pan top bot true k).lo - (inS ll lh wl wh hl hh ol oh il ih k).lo) (by omega) (by omega)
 have hz2 : ¬ lostL k true = 0 := by rcases lostL_12 k true with e | e <;> rw [e] <;> decide
 clear G H
 go_enter Try.func84, Try.ntmps84
 go_upto_region 6 with fail
 clear q6 p10
 refine wp_abs (fun W => Gr w W ∧ Box W w.heap.size [.int .i64 tab, .slice pa pan.length pc, .int .i64 hei, .slice ta top.length tc, .slice ba bot.length bc, .int .i64 slo, .bool true, .int .i64 off, .slice ta top.length tc, .slice ba bot.length bc] ∧ Box W (w.heap.size + 1) [.int .i64 ll, .int .i64 lh, .int .i64 wl, .int .i64 wh, .int .i64 hl, .int .i64 hh, .int .i64 ol, .int .i64 oh, .int .i64 il, .int .i64 ih, .bool wo] ∧ Own W (w.heap.size + 1 + 1) [.int .i64 0, .int .i64 0] ∧ Own W (w.heap.size + 1 + 1 + 1) [.int .i64 1, .int .i64 10000]) ⟨gg, hX, hW, oR, hA⟩ ?_
 clear gg hX hW oR hA
 rintro W ⟨gg, hX, hW, oR, hA⟩
 have oR0 := oR
 have hA0 := hA
 refine (show (∀ s : Nat → Value, Code.wp Try.prog _ _ ⟨#[s 0, s 1, .int .i64 k, .pointer (some ⟨w.heap.size, 0, none⟩), .pointer (some ⟨(w.heap.size + 1), 0, none⟩), s 5, .pointer (some ⟨(w.heap.size + 1 + 1), 0, none⟩), .pointer (some ⟨(w.heap.size + 1 + 1 + 1), 0, none⟩), undef, undef, undef, s 11, s 12, s 13, s 14, s 15, s 16, s 17, s 18, s 19, s 20, s 21, s 22, s 23, s 24, s 25, s 26, s 27, s 28, s 29, s 30, s 31, s 32, s 33, s 34, s 35, s 36, s 37, s 38, s 39, s 40, undef, undef, undef, undef, undef, undef, undef, undef, undef, undef, undef, undef, undef, undef, undef, undef, undef, undef, undef, undef, undef, undef, undef, undef, undef, undef], []⟩ _) → _ from fun h => h ((fun l : List Value => fun i => l.getD i undef) [_, _, undef, undef, undef, _, undef, undef, undef, undef, undef, _, _, _, _, _, _, _, _, _, _, _, _, _, _, _, _, _, _, _, _, _, _, _, _, _, _, _, _, _, _])) ?_
 intro s
 dsimp only
 refine wp_region_facts 11 [(2, 0), (2, 1), (3, 2), (6, 4), (6, 5), (9, 7), (9, 8)] (fun x => ⟨#[s 0, s 1, .int .i64 k, .pointer (some ⟨w.heap.size, 0, none⟩), .pointer (some ⟨(w.heap.size + 1), 0, none⟩), s 5, .pointer (some ⟨(w.heap.size + 1 + 1), 0, none⟩), .pointer (some ⟨(w.heap.size + 1 + 1 + 1), 0, none⟩), undef, undef, x 10, s 11, s 12, s 13, s 14, s 15, s 16, s 17, s 18, s 19, s 20, s 21, s 22, s 23, s 24, s 25, s 26, s 27, s 28, s 29, s 30, s 31, s 32, s 33, s 34, s 35, s 36, s 37, s 38, s 39, s 40, x 0, x 1, x 2, x 3, x 4, x 5, x 6, x 7, x 8, x 9, undef, undef, undef, undef, undef, undef, undef, undef, undef, undef, undef, undef, undef, undef, undef, undef], []⟩) (fun _ => undef) [fun _ x => x = .agg #[.int .i64 tab, .slice pa pan.length pc, .int .i64 hei, .slice ta top.length tc, .slice ba bot.length bc, .int .i64 slo, .bool true, .int .i64 off, .slice ta top.length tc, .slice ba bot.length bc], fun _ x => x = .int .i64 k, fun _ x => x = .agg #[.int .i64 (flatS off hei slo pan top bot true k).lo, .int .i64 (flatS off hei slo pan top bot true k).hi], fun _ x => x = .int .i64 (flatS off hei slo pan top bot true k).lo, fun _ x => x = .agg #[.int .i64 tab, .slice pa pan.length pc, .int .i64 hei, .slice ta top.length tc, .slice ba bot.length bc, .int .i64 slo, .bool true, .int .i64 off, .slice ta top.length tc, .slice ba bot.length bc], fun _ x => x = .int .i64 k, fun _ x => x = .int .i64 (lostL k true), fun _ x => x = .agg #[.int .i64 ll, .int .i64 lh, .int .i64 wl, .int .i64 wh, .int .i64 hl, .int .i64 hh, .int .i64 ol, .int .i64 oh, .int .i64 il, .int .i64 ih, .bool wo], fun _ x => x = .int .i64 k, fun _ x => x = .agg #[.int .i64 (inS ll lh wl wh hl hh ol oh il ih k).lo, .int .i64 (inS ll lh wl wh hl hh ol oh il ih k).hi], fun v x => ∃ b, x = .pointer (some ⟨b, 0, none⟩) ∧ W.heap.size ≤ b ∧ Own v b [.int .i64 0, .int .i64 0]] (by rfl) (by kernel_rfl) (by kernel_rfl) (by kernel_rfl) (stays_cons (Stays.eq _) (stays_cons (Stays.eq _) (stays_cons (Stays.eq _) (stays_cons (Stays.eq _) (stays_cons (Stays.eq _) (stays_cons (Stays.eq _) (stays_cons (Stays.eq _) (stays_cons (Stays.eq _) (stays_cons (Stays.eq _) (stays_cons (Stays.eq _) (stays_cons ((show Stays (fun v x => ∃ b, x = .pointer (some ⟨b, 0, none⟩) ∧ W.heap.size ≤ b ∧ Own v b [.int .i64 0, .int .i64 0]) from fun v v' x g ⟨b, e, h, o⟩ => ⟨b, e, h, o.keep g⟩)) stays_nil))))))))))) ?step6 ?fin6
 case step6 =>
  rintro i hi x v gv hd K hK
  have hi8 : i = 0 ∨ i = 1 ∨ i = 2 ∨ i = 3 ∨ i = 4 ∨ i = 5 ∨ i = 6 ∨ i = 7 ∨ i = 8 ∨ i = 9 ∨ i = 10 := by omega
  rcases hi8 with rfl | rfl | rfl | rfl | rfl | rfl | rfl | rfl | rfl | rfl | rfl
  ·dsimp only [upd, Nat.reduceBEq, cond_true, cond_false]
   refine wpOp_step rfl (fun K' hK' => ?_)
   rw [if_pos (by rfl)]
   refine wp_load_mid 124 _ rfl w.heap.size 0 (by rfl) [.int .i64 tab, .slice pa pan.length pc, .int .i64 hei, .slice ta top.length tc, .slice ba bot.length bc, .int .i64 slo, .bool true, .int .i64 off, .slice ta top.length tc, .slice ba bot.length bc] _ (fun j u hu => by rw [Nat.zero_add]; exact (hX.keep gv).2 j u hu) Try.underlying124 rfl (by kernel_rfl) ?_
   exact hK' _ _ (hK _ _ (Below.refl _ _) (at_of rfl (rfl)))
  ·dsimp only [upd, Nat.reduceBEq, cond_true, cond_false]
   refine wpOp_step rfl (fun K' hK' => ?_)
   go_simp
   exact hK' _ _ (hK _ _ (Below.refl _ _) (at_of rfl (rfl)))
  ·obtain ⟨x, rfl⟩ := upd_of (show x 0 = .agg #[.int .i64 tab, .slice pa pan.length pc, .int .i64 hei, .slice ta top.length tc, .slice ba bot.length bc, .int .i64 slo, .bool true, .int .i64 off, .slice ta top.length tc, .slice ba bot.length bc] from hd 0 _ (by simp) rfl)
   obtain ⟨x, rfl⟩ := upd_of (show x 1 = .int .i64 k from hd 1 _ (by simp) rfl)
   dsimp only [upd, Nat.reduceBEq, cond_true, cond_false]
   refine wpOp_step rfl (fun K' hK' => ?_)
   go_simp
   refine (flatS_all _ _ _ _ _ _ _ _ _ _ _ _ _ _ h2 h3 k HG.out hk v (hp.grow (gg.tr gv)) (ht.grow (gg.tr gv)) (hb.grow (gg.tr gv))).mono ?_
   rintro e v' ⟨rfl, hg⟩
   exact hK' _ _ (hK _ _ hg (at_of rfl (rfl)))
  ·obtain ⟨x, rfl⟩ := upd_of (show x 2 = .agg #[.int .i64 (flatS off hei slo pan top bot true k).lo, .int .i64 (flatS off hei slo pan top bot true k).hi] from hd 2 _ (by simp) rfl)
   dsimp only [upd, Nat.reduceBEq, cond_true, cond_false]
   refine wpOp_step rfl (fun K' hK' => ?_)
   have q := fieldSp_0 (.int .i64 (flatS off hei slo pan top bot true k).lo) (.int .i64 (flatS off hei slo pan top bot true k).hi) v
   go_simp
   exact hK' _ _ (hK _ _ (Below.refl _ _) (at_of rfl (rfl)))
  ·dsimp only [upd, Nat.reduceBEq, cond_true, cond_false]
   refine wpOp_step rfl (fun K' hK' => ?_)
   rw [if_pos (by rfl)]
   refine wp_load_mid 124 _ rfl w.heap.size 0 (by rfl) [.int .i64 tab, .slice pa pan.length pc, .int .i64 hei, .slice ta top.length tc, .slice ba bot.length bc, .int .i64 slo, .bool true, .int .i64 off, .slice ta top.length tc, .slice ba bot.length bc] _ (fun j u hu => by rw [Nat.zero_add]; exact (hX.keep gv).2 j u hu) Try.underlying124 rfl (by kernel_rfl) ?_
   exact hK' _ _ (hK _ _ (Below.refl _ _) (at_of rfl (rfl)))
  ·dsimp only [upd, Nat.reduceBEq, cond_true, cond_false]
   refine wpOp_step rfl (fun K' hK' => ?_)
   go_simp
   exact hK' _ _ (hK _ _ (Below.refl _ _) (at_of rfl (rfl)))
  ·obtain ⟨x, rfl⟩ := upd_of (show x 4 = .agg #[.int .i64 tab, .slice pa pan.length pc, .int .i64 hei, .slice ta top.length tc, .slice ba bot.length bc, .int .i64 slo, .bool true, .int .i64 off, .slice ta top.length tc, .slice ba bot.length bc] from hd 4 _ (by simp) rfl)
   obtain ⟨x, rfl⟩ := upd_of (show x 5 = .int .i64 k from hd 5 _ (by simp) rfl)
   dsimp only [upd, Nat.reduceBEq, cond_true, cond_false]
   refine wpOp_step rfl (fun K' hK' => ?_)
   go_simp
   refine (lost_any _ _ _ _ _ _ _ _ _ _ _ _ _ _ k v).mono ?_
   rintro e v' ⟨rfl, hg⟩
   exact hK' _ _ (hK _ _ hg (at_of rfl (rfl)))
  ·dsimp only [upd, Nat.reduceBEq, cond_true, cond_false]
   refine wpOp_step rfl (fun K' hK' => ?_)
   rw [if_pos (by rfl)]
   refine wp_load_mid 133 _ rfl (w.heap.size + 1) 0 (by rfl) [.int .i64 ll, .int .i64 lh, .int .i64 wl, .int .i64 wh, .int .i64 hl, .int .i64 hh, .int .i64 ol, .int .i64 oh, .int .i64 il, .int .i64 ih, .bool wo] _ (fun j u hu => by rw [Nat.zero_add]; exact (hW.keep gv).2 j u hu) Try.underlying133 rfl (by kernel_rfl) ?_
   exact hK' _ _ (hK _ _ (Below.refl _ _) (at_of rfl (rfl)))
  ·dsimp only [upd, Nat.reduceBEq, cond_true, cond_false]
   refine wpOp_step rfl (fun K' hK' => ?_)
   go_simp
   exact hK' _ _ (hK _ _ (Below.refl _ _) (at_of rfl (rfl)))
  ·obtain ⟨x, rfl⟩ := upd_of (show x 7 = .agg #[.int .i64 ll, .int .i64 lh, .int .i64 wl, .int .i64 wh, .int .i64 hl, .int .i64 hh, .int .i64 ol, .int .i64 oh, .int .i64 il, .int .i64 ih, .bool wo] from hd 7 _ (by simp) rfl)
   obtain ⟨x, rfl⟩ := upd_of (show x 8 = .int .i64 k from hd 8 _ (by simp) rfl)
   dsimp only [upd, Nat.reduceBEq, cond_true, cond_false]
   refine wpOp_step rfl (fun K' hK' => ?_)
   go_simp
   refine (in_any ll lh wl wh hl hh ol oh il ih wo HH.out k hk v).mono ?_
   rintro e v' ⟨rfl, hg⟩
   exact hK' _ _ (hK _ _ hg (at_of rfl (rfl)))
  ·dsimp only [upd, Nat.reduceBEq, cond_true, cond_false]
   refine wpOp_step rfl (fun K' hK' => ?_)
   go_simp
   have hg := Gr.al v (.cells (List.toArray [.int .i64 0, .int .i64 0]) 37)
   exact hK' _ _ (hK _ _ hg (at_of rfl (⟨v.heap.size, rfl, gv.size, Own.new v [.int .i64 0, .int .i64 0] 37 v.heap.size rfl⟩)))
 case fin6 =>
  rintro x v gv hd
  obtain ⟨x, rfl⟩ := upd_of (show x 3 = .int .i64 (flatS off hei slo pan top bot true k).lo from hd 3 _ (by omega) rfl)
  obtain ⟨x, rfl⟩ := upd_of (show x 6 = .int .i64 (lostL k true) from hd 6 _ (by omega) rfl)
  obtain ⟨x, rfl⟩ := upd_of (show x 9 = .agg #[.int .i64 (inS ll lh wl wh hl hh ol oh il ih k).lo, .int .i64 (inS ll lh wl wh hl hh ol oh il ih k).hi] from hd 9 _ (by omega) rfl)
  obtain ⟨b10, e10, hb10, ow10⟩ := hd 10 _ (by omega) rfl
  obtain ⟨x, rfl⟩ := upd_of (show x 10 = .pointer (some ⟨b10, 0, none⟩) from e10)
  clear hd
  show wpList Try.prog _ _ (List.drop 11 _) (⟨#[_, _, _, _, _, _, _, _, _, _, .pointer (some ⟨b10, 0, none⟩), _, _, _, _, _, _, _, _, _, _, _, _, _, _, _, _, _, _, _, _, _, _, _, _, _, _, _, _, _, _, x 0, x 1, x 2, .int .i64 (flatS off hei slo pan top bot true k).lo, x 4, x 5, .int .i64 (lostL k true), x 7, x 8, .agg #[.int .i64 (inS ll lh wl wh hl hh ol oh il ih k).lo, .int .i64 (inS ll lh wl wh hl hh ol oh il ih k).hi], _, _, _, _, _, _, _, _, _, _, _, _, _, _, _, _], []⟩ : Act) v
  simp only [List.drop_succ_cons, List.drop_zero]
  have gW := gg.tr gv
  have hX := hX.keep gv
  have oR := oR.keep gv
  have hA := hA.keep gv
  have hbw := gg.size
  have hbX := oR.1.1
  have hbR := (show b10 ≠ (w.heap.size + 1 + 1) by have := oR0.1.1; omega)
  have hbA := (show b10 ≠ (w.heap.size + 1 + 1 + 1) by have := hA0.1.1; omega)
  obtain ⟨u0, u1⟩ := ow10.1.c2
  have z0 := ow10.2 0
  have z1 := ow10.2 1
  clear gg gv hW
  go_upto_region 7 with fail
  refine wp_abs (fun V => Gr w V ∧ Own V (w.heap.size + 1 + 1) [.int .i64 0, .int .i64 0] ∧ Own V (w.heap.size + 1 + 1 + 1) [.int .i64 1, .int .i64 10000] ∧ Box V b10 [.int .i64 (inS ll lh wl wh hl hh ol oh il ih k).lo, .int .i64 (inS ll lh wl wh hl hh ol oh il ih k).hi]) ⟨(gW.setCell (by simp; omega) _).setCell (by simp; omega) _, (oR.other (by omega)).other (by omega), (hA.other (by omega)).other (by omega), ((ow10.set (i := 0) (by simp)).set (i := 1) (by simp)).1⟩ ?_
  clear gW oR hA ow10 u0 u1 z0 z1 hX
  rintro V ⟨gg, oR, hA, hI⟩
  have v0 : IntKind.i64.wrap ((flatS off hei slo pan top bot true k).lo - (inS ll lh wl wh hl hh ol oh il ih k).hi) = (flatS off hei slo pan top bot true k).lo - (inS ll lh wl wh hl hh ol oh il ih k).hi := IntWalk.i64_in _ (by omega)
  have v1 : IntKind.i64.wrap ((flatS off hei slo pan top bot true k).lo - (inS ll lh wl wh hl hh ol oh il ih k).lo) = (flatS off hei slo pan top bot true k).lo - (inS ll lh wl wh hl hh ol oh il ih k).lo := IntWalk.i64_in _ (by omega)
  have v2 : IntKind.i64.wrap (((flatS off hei slo pan top bot true k).lo - (inS ll lh wl wh hl hh ol oh il ih k).hi).tdiv (lostL k true)) = ((flatS off hei slo pan top bot true k).lo - (inS ll lh wl wh hl hh ol oh il ih k).hi).tdiv (lostL k true) := IntWalk.i64_in _ (by omega)
  have v3 : IntKind.i64.wrap (((flatS off hei slo pan top bot true k).lo - (inS ll lh wl wh hl hh ol oh il ih k).lo).tdiv (lostL k true)) = ((flatS off hei slo pan top bot true k).lo - (inS ll lh wl wh hl hh ol oh il ih k).lo).tdiv (lostL k true) := IntWalk.i64_in _ (by omega)
  refine (show (∀ s : Nat → Value, Code.wp Try.prog _ _ ⟨#[s 0, s 1, s 2, .pointer (some ⟨w.heap.size, 0, none⟩), .pointer (some ⟨(w.heap.size + 1), 0, none⟩), s 5, .pointer (some ⟨(w.heap.size + 1 + 1), 0, none⟩), .pointer (some ⟨(w.heap.size + 1 + 1 + 1), 0, none⟩), .int .i64 (flatS off hei slo pan top bot true k).lo, .int .i64 (lostL k true), .pointer (some ⟨b10, 0, none⟩), s 11, s 12, s 13, s 14, s 15, s 16, s 17, s 18, s 19, s 20, s 21, s 22, s 23, s 24, s 25, s 26, s 27, s 28, s 29, s 30, s 31, s 32, s 33, s 34, s 35, s 36, s 37, s 38, s 39, s 40, s 41, s 42, s 43, s 44, s 45, s 46, s 47, s 48, s 49, s 50, undef, undef, undef, undef, undef, undef, undef, undef, undef, undef, undef, undef, undef, undef, undef, undef], []⟩ _) → _ from fun h => h ((fun l : List Value => fun i => l.getD i undef) [_, _, _, undef, undef, _, undef, undef, undef, undef, undef, _, _, _, _, _, _, _, _, _, _, _, _, _, _, _, _, _, _, _, _, _, _, _, _, _, _, _, _, _, _, _, _, _, _, _, _, _, _, _, _])) ?_
  clear s
  intro s
  dsimp only
  refine wp_region_facts 16 [(3, 2), (4, 1), (4, 3), (6, 4), (6, 5), (9, 8), (10, 7), (10, 9), (12, 10), (12, 11), (13, 6), (13, 12), (14, 13), (15, 0), (15, 14)] (fun x => ⟨#[s 0, s 1, s 2, .pointer (some ⟨w.heap.size, 0, none⟩), .pointer (some ⟨(w.heap.size + 1), 0, none⟩), s 5, .pointer (some ⟨(w.heap.size + 1 + 1), 0, none⟩), .pointer (some ⟨(w.heap.size + 1 + 1 + 1), 0, none⟩), .int .i64 (flatS off hei slo pan top bot true k).lo, .int .i64 (lostL k true), .pointer (some ⟨b10, 0, none⟩), s 11, s 12, s 13, s 14, s 15, s 16, s 17, s 18, s 19, s 20, s 21, s 22, s 23, s 24, s 25, s 26, s 27, s 28, s 29, s 30, s 31, s 32, s 33, s 34, s 35, s 36, s 37, s 38, s 39, s 40, s 41, s 42, s 43, s 44, s 45, s 46, s 47, s 48, s 49, s 50, x 0, x 1, x 2, x 3, x 4, x 5, x 6, x 7, x 8, x 9, x 10, x 11, x 12, x 13, x 14, x 15], []⟩) (fun _ => undef) [fun _ x => x = .agg #[.int .i64 1, .int .i64 10000], fun _ x => x = .int .i64 (flatS off hei slo pan top bot true k).lo, fun _ x => x = .pointer (some ⟨b10, 1, none⟩), fun _ x => x = .int .i64 (inS ll lh wl wh hl hh ol oh il ih k).hi, fun _ x => x = .int .i64 ((flatS off hei slo pan top bot true k).lo - (inS ll lh wl wh hl hh ol oh il ih k).hi), fun _ x => x = .int .i64 (lostL k true), fun _ x => x = .int .i64 (((flatS off hei slo pan top bot true k).lo - (inS ll lh wl wh hl hh ol oh il ih k).hi).tdiv (lostL k true)), fun _ x => x = .int .i64 (flatS off hei slo pan top bot true k).lo, fun _ x => x = .pointer (some ⟨b10, 0, none⟩), fun _ x => x = .int .i64 (inS ll lh wl wh hl hh ol oh il ih k).lo, fun _ x => x = .int .i64 ((flatS off hei slo pan top bot true k).lo - (inS ll lh wl wh hl hh ol oh il ih k).lo), fun _ x => x = .int .i64 (lostL k true), fun _ x => x = .int .i64 (((flatS off hei slo pan top bot true k).lo - (inS ll lh wl wh hl hh ol oh il ih k).lo).tdiv (lostL k true)), fun _ x => x = .agg #[.int .i64 (((flatS off hei slo pan top bot true k).lo - (inS ll lh wl wh hl hh ol oh il ih k).hi).tdiv (lostL k true)), .int .i64 (((flatS off hei slo pan top bot true k).lo - (inS ll lh wl wh hl hh ol oh il ih k).lo).tdiv (lostL k true))], fun v x => ∃ a, x = .slice a 1 1 ∧ SRow v a [⟨((flatS off hei slo pan top bot true k).lo - (inS ll lh wl wh hl hh ol oh il ih k).hi).tdiv (lostL k true), ((flatS off hei slo pan top bot true k).lo - (inS ll lh wl wh hl hh ol oh il ih k).lo).tdiv (lostL k true)⟩], fun _ x => x = .agg #[.int .i64 (max 1 (((flatS off hei slo pan top bot true k).lo - (inS ll lh wl wh hl hh ol oh il ih k).hi).tdiv (lostL k true))), .int .i64 (min 10000 (((flatS off hei slo pan top bot true k).lo - (inS ll lh wl wh hl hh ol oh il ih k).lo).tdiv (lostL k true)))]] (by rfl) (by kernel_rfl) (by kernel_rfl) (by kernel_rfl) (stays_cons (Stays.eq _) (stays_cons (Stays.eq _) (stays_cons (Stays.eq _) (stays_cons (Stays.eq _) (stays_cons (Stays.eq _) (stays_cons (Stays.eq _) (stays_cons (Stays.eq _) (stays_cons (Stays.eq _) (stays_cons (Stays.eq _) (stays_cons (Stays.eq _) (stays_cons (Stays.eq _) (stays_cons (Stays.eq _) (stays_cons (Stays.eq _) (stays_cons (Stays.eq _) (stays_cons ((show Stays (fun v x => ∃ a, x = .slice a 1 1 ∧ SRow v a [⟨((flatS off hei slo pan top bot true k).lo - (inS ll lh wl wh hl hh ol oh il ih k).hi).tdiv (lostL k true), ((flatS off hei slo pan top bot true k).lo - (inS ll lh wl wh hl hh ol oh il ih k).lo).tdiv (lostL k true)⟩]) from fun v v' x g ⟨a, e, r⟩ => ⟨a, e, r.grow g⟩)) (stays_cons (Stays.eq _) stays_nil)))))))))))))))) ?step7 ?fin7
  case step7 =>
   rintro i hi x v gv hd K hK
   have hi8 : i = 0 ∨ i = 1 ∨ i = 2 ∨ i = 3 ∨ i = 4 ∨ i = 5 ∨ i = 6 ∨ i = 7 ∨ i = 8 ∨ i = 9 ∨ i = 10 ∨ i = 11 ∨ i = 12 ∨ i = 13 ∨ i = 14 ∨ i = 15 := by omega
   rcases hi8 with rfl | rfl | rfl | rfl | rfl | rfl | rfl | rfl | rfl | rfl | rfl | rfl | rfl | rfl | rfl | rfl
   ·dsimp only [upd, Nat.reduceBEq, cond_true, cond_false]
    refine wpOp_step rfl (fun K' hK' => ?_)
    rw [if_pos (by rfl)]
    refine wp_load_mid 37 _ rfl (w.heap.size + 1 + 1 + 1) 0 (by rfl) [.int .i64 1, .int .i64 10000] _ (fun j u hu => by rw [Nat.zero_add]; exact (hA.1.keep gv).2 j u hu) Try.underlying37 rfl (by kernel_rfl) ?_
    exact hK' _ _ (hK _ _ (Below.refl _ _) (at_of rfl (rfl)))
   ·dsimp only [upd, Nat.reduceBEq, cond_true, cond_false]
    refine wpOp_step rfl (fun K' hK' => ?_)
    go_simp
    exact hK' _ _ (hK _ _ (Below.refl _ _) (at_of rfl (rfl)))
   ·dsimp only [upd, Nat.reduceBEq, cond_true, cond_false]
    refine wpOp_step rfl (fun K' hK' => ?_)
    go_simp
    exact hK' _ _ (hK _ _ (Below.refl _ _) (at_of rfl (rfl)))
   ·obtain ⟨x, rfl⟩ := upd_of (show x 2 = .pointer (some ⟨b10, 1, none⟩) from hd 2 _ (by simp) rfl)
    dsimp only [upd, Nat.reduceBEq, cond_true, cond_false]
    refine wpOp_step rfl (fun K' hK' => ?_)
    have q := (hI.keep gv).2 1 _ rfl
    go_simp
    exact hK' _ _ (hK _ _ (Below.refl _ _) (at_of rfl (rfl)))
   ·obtain ⟨x, rfl⟩ := upd_of (show x 1 = .int .i64 (flatS off hei slo pan top bot true k).lo from hd 1 _ (by simp) rfl)
    obtain ⟨x, rfl⟩ := upd_of (show x 3 = .int .i64 (inS ll lh wl wh hl hh ol oh il ih k).hi from hd 3 _ (by simp) rfl)
    dsimp only [upd, Nat.reduceBEq, cond_true, cond_false]
    refine wpOp_step rfl (fun K' hK' => ?_)
    go_simp
    exact hK' _ _ (hK _ _ (Below.refl _ _) (at_of rfl (rfl)))
   ·dsimp only [upd, Nat.reduceBEq, cond_true, cond_false]
    refine wpOp_step rfl (fun K' hK' => ?_)
    go_simp
    exact hK' _ _ (hK _ _ (Below.refl _ _) (at_of rfl (rfl)))
   ·obtain ⟨x, rfl⟩ := upd_of (show x 4 = .int .i64 ((flatS off hei slo pan top bot true k).lo - (inS ll lh wl wh hl hh ol oh il ih k).hi) from hd 4 _ (by simp) rfl)
    obtain ⟨x, rfl⟩ := upd_of (show x 5 = .int .i64 (lostL k true) from hd 5 _ (by simp) rfl)
    dsimp only [upd, Nat.reduceBEq, cond_true, cond_false]
    refine wpOp_step rfl (fun K' hK' => ?_)
    go_simp
    exact hK' _ _ (hK _ _ (Below.refl _ _) (at_of rfl (rfl)))
   ·dsimp only [upd, Nat.reduceBEq, cond_true, cond_false]
    refine wpOp_step rfl (fun K' hK' => ?_)
    go_simp
    exact hK' _ _ (hK _ _ (Below.refl _ _) (at_of rfl (rfl)))
   ·dsimp only [upd, Nat.reduceBEq, cond_true, cond_false]
    refine wpOp_step rfl (fun K' hK' => ?_)
    go_simp
    exact hK' _ _ (hK _ _ (Below.refl _ _) (at_of rfl (rfl)))
   ·obtain ⟨x, rfl⟩ := upd_of (show x 8 = .pointer (some ⟨b10, 0, none⟩) from hd 8 _ (by simp) rfl)
    dsimp only [upd, Nat.reduceBEq, cond_true, cond_false]
    refine wpOp_step rfl (fun K' hK' => ?_)
    have q := (hI.keep gv).2 0 _ rfl
    go_simp
    exact hK' _ _ (hK _ _ (Below.refl _ _) (at_of rfl (rfl)))
   ·obtain ⟨x, rfl⟩ := upd_of (show x 7 = .int .i64 (flatS off hei slo pan top bot true k).lo from hd 7 _ (by simp) rfl)
    obtain ⟨x, rfl⟩ := upd_of (show x 9 = .int .i64 (inS ll lh wl wh hl hh ol oh il ih k).lo from hd 9 _ (by simp) rfl)
    dsimp only [upd, Nat.reduceBEq, cond_true, cond_false]
    refine wpOp_step rfl (fun K' hK' => ?_)
    go_simp
    exact hK' _ _ (hK _ _ (Below.refl _ _) (at_of rfl (rfl)))
   ·dsimp only [upd, Nat.reduceBEq, cond_true, cond_false]
    refine wpOp_step rfl (fun K' hK' => ?_)
    go_simp
    exact hK' _ _ (hK _ _ (Below.refl _ _) (at_of rfl (rfl)))
   ·obtain ⟨x, rfl⟩ := upd_of (show x 10 = .int .i64 ((flatS off hei slo pan top bot true k).lo - (inS ll lh wl wh hl hh ol oh il ih k).lo) from hd 10 _ (by simp) rfl)
    obtain ⟨x, rfl⟩ := upd_of (show x 11 = .int .i64 (lostL k true) from hd 11 _ (by simp) rfl)
    dsimp only [upd, Nat.reduceBEq, cond_true, cond_false]
    refine wpOp_step rfl (fun K' hK' => ?_)
    go_simp
    exact hK' _ _ (hK _ _ (Below.refl _ _) (at_of rfl (rfl)))
   ·obtain ⟨x, rfl⟩ := upd_of (show x 6 = .int .i64 (((flatS off hei slo pan top bot true k).lo - (inS ll lh wl wh hl hh ol oh il ih k).hi).tdiv (lostL k true)) from hd 6 _ (by simp) rfl)
    obtain ⟨x, rfl⟩ := upd_of (show x 12 = .int .i64 (((flatS off hei slo pan top bot true k).lo - (inS ll lh wl wh hl hh ol oh il ih k).lo).tdiv (lostL k true)) from hd 12 _ (by simp) rfl)
    dsimp only [upd, Nat.reduceBEq, cond_true, cond_false]
    refine wpOp_step rfl (fun K' hK' => ?_)
    go_simp
    exact hK' _ _ (hK _ _ (Below.refl _ _) (at_of rfl (rfl)))
   ·obtain ⟨x, rfl⟩ := upd_of (show x 13 = .agg #[.int .i64 (((flatS off hei slo pan top bot true k).lo - (inS ll lh wl wh hl hh ol oh il ih k).hi).tdiv (lostL k true)), .int .i64 (((flatS off hei slo pan top bot true k).lo - (inS ll lh wl wh hl hh ol oh il ih k).lo).tdiv (lostL k true))] from hd 13 _ (by simp) rfl)
    dsimp only [upd, Nat.reduceBEq, cond_true, cond_false]
    refine wpOp_step rfl (fun K' hK' => ?_)
    go_simp
    have hg := Gr.al v (.cells (List.toArray [.int .i64 (((flatS off hei slo pan top bot true k).lo - (inS ll lh wl wh hl hh ol oh il ih k).hi).tdiv (lostL k true)), .int .i64 (((flatS off hei slo pan top bot true k).lo - (inS ll lh wl wh hl hh ol oh il ih k).lo).tdiv (lostL k true))]) 37)
    exact hK' _ _ (hK _ _ hg (at_of rfl (⟨_, rfl, SRow.new1 v 37 (((flatS off hei slo pan top bot true k).lo - (inS ll lh wl wh hl hh ol oh il ih k).hi).tdiv (lostL k true)) (((flatS off hei slo pan top bot true k).lo - (inS ll lh wl wh hl hh ol oh il ih k).lo).tdiv (lostL k true)) v.heap.size rfl⟩)))
   ·obtain ⟨x, rfl⟩ := upd_of (show x 0 = .agg #[.int .i64 1, .int .i64 10000] from hd 0 _ (by simp) rfl)
    obtain ⟨a14, e14, r14⟩ := hd 14 _ (by simp) rfl
    obtain ⟨x, rfl⟩ := upd_of (show x 14 = .slice a14 1 1 from e14)
    dsimp only [upd, Nat.reduceBEq, cond_true, cond_false]
    refine wpOp_step rfl (fun K' hK' => ?_)
    go_simp
    refine (meet_one ⟨1, 10000⟩ (((flatS off hei slo pan top bot true k).lo - (inS ll lh wl wh hl hh ol oh il ih k).hi).tdiv (lostL k true)) (((flatS off hei slo pan top bot true k).lo - (inS ll lh wl wh hl hh ol oh il ih k).lo).tdiv (lostL k true)) a14 1 v r14).mono ?_
    rintro e v' ⟨rfl, hg⟩
    exact hK' _ _ (hK _ _ hg (at_of rfl (rfl)))
  case fin7 =>
   rintro x v gv hd
   obtain ⟨x, rfl⟩ := upd_of (show x 15 = .agg #[.int .i64 (max 1 (((flatS off hei slo pan top bot true k).lo - (inS ll lh wl wh hl hh ol oh il ih k).hi).tdiv (lostL k true))), .int .i64 (min 10000 (((flatS off hei slo pan top bot true k).lo - (inS ll lh wl wh hl hh ol oh il ih k).lo).tdiv (lostL k true)))] from hd 15 _ (by omega) rfl)
   clear hd
   show wpList Try.prog _ _ (List.drop 16 _) (⟨#[_, _, _, _, _, _, _, _, _, _, _, _, _, _, _, _, _, _, _, _, _, _, _, _, _, _, _, _, _, _, _, _, _, _, _, _, _, _, _, _, _, _, _, _, _, _, _, _, _, _, _, x 0, x 1, x 2, x 3, x 4, x 5, x 6, x 7, x 8, x 9, x 10, x 11, x 12, x 13, x 14, .agg #[.int .i64 (max 1 (((flatS off hei slo pan top bot true k).lo - (inS ll lh wl wh hl hh ol oh il ih k).hi).tdiv (lostL k true))), .int .i64 (min 10000 (((flatS off hei slo pan top bot true k).lo - (inS ll lh wl wh hl hh ol oh il ih k).lo).tdiv (lostL k true)))]], []⟩ : Act) v
   simp only [List.drop_succ_cons, List.drop_zero]
   have ob := oR.keep gv
   have gW := gg.tr gv
   obtain ⟨u0, u1⟩ := ob.1.c2
   have z0 := ob.2 0
   have z1 := ob.2 1
   clear v0 v1 v2 v3
   go_wp2
   have o1 := ((ob.set (i := 0) (v := .int .i64 (max 1 (((flatS off hei slo pan top bot true k).lo - (inS ll lh wl wh hl hh ol oh il ih k).hi).tdiv (lostL k true)))) (by simp)).set (i := 1) (v := .int .i64 (min 10000 (((flatS off hei slo pan top bot true k).lo - (inS ll lh wl wh hl hh ol oh il ih k).lo).tdiv (lostL k true)))) (by simp)).1.c2
   obtain ⟨o10, o11⟩ := o1
   refine bodyPost_ret (v := .agg #[.int .i64 (max 1 (((flatS off hei slo pan top bot true k).lo - (inS ll lh wl wh hl hh ol oh il ih k).hi).tdiv (lostL k true))), .int .i64 (min 10000 (((flatS off hei slo pan top bot true k).lo - (inS ll lh wl wh hl hh ol oh il ih k).lo).tdiv (lostL k true)))]) (by simp [results, Try.results84, go_sem, o10, o11]) rfl ⟨rfl, ?_⟩
   exact (gW.setCell (by simp; omega) _).setCell (by simp; omega) _

set_option maxRecDepth 100000 in
set_option maxHeartbeats 4000000 in
theorem hold_ft (tab hei slo off : Int) (pan top bot : List Int) (pa ta ba : Option Addr) (pc tc bc : Nat) (ll lh wl wh hl hh ol oh il ih : Int) (k : Nat) (hk : k < 10) (G : ShK hei slo pan top bot k) (H : GoodWish ll lh wl wh hl hh ol oh il ih) (h2 : 0 ≤ off) (h3 : off ≤ 3000) (k5 : ((k : Int) == 5) = false) (k6 : ((k : Int) == 6) = false) (w : World) (hp : IRow w pa pan) (ht : IRow w ta top) (hb : IRow w ba bot) :
  Calls Try.prog 84 #[.agg #[.int .i64 tab, .slice pa pan.length pc, .int .i64 hei, .slice ta top.length tc, .slice ba bot.length bc, .int .i64 slo, .bool false, .int .i64 off, .slice ta top.length tc, .slice ba bot.length bc], .agg #[.int .i64 ll, .int .i64 lh, .int .i64 wl, .int .i64 wh, .int .i64 hl, .int .i64 hh, .int .i64 ol, .int .i64 oh, .int .i64 il, .int .i64 ih, .bool true], .int .i64 k] w fun e w' => e = .returned (.agg #[.int .i64 (max 1 (((flatS off hei slo pan top bot false k).lo - (inS ll lh wl wh hl hh ol oh il ih k).hi).tdiv (lostL k false))), .int .i64 (min 10000 (((flatS off hei slo pan top bot false k).lo - (inS ll lh wl wh hl hh ol oh il ih k).lo).tdiv (lostL k false)))]) ∧ Gr w w' := by
 have gg := (((Gr.al w (.cells #[.int .i64 tab, .slice pa pan.length pc, .int .i64 hei, .slice ta top.length tc, .slice ba bot.length bc, .int .i64 slo, .bool false, .int .i64 off, .slice ta top.length tc, .slice ba bot.length bc] 124)).tr (Gr.al _ (.cells #[.int .i64 ll, .int .i64 lh, .int .i64 wl, .int .i64 wh, .int .i64 hl, .int .i64 hh, .int .i64 ol, .int .i64 oh, .int .i64 il, .int .i64 ih, .bool true] 133))).tr (Gr.al _ (.cells #[.int .i64 0, .int .i64 0] 37))).tr (Gr.al _ (.cells #[.int .i64 1, .int .i64 10000] 37))
 have hX := (((Box.new w [.int .i64 tab, .slice pa pan.length pc, .int .i64 hei, .slice ta top.length tc, .slice ba bot.length bc, .int .i64 slo, .bool false, .int .i64 off, .slice ta top.length tc, .slice ba bot.length bc] 124 w.heap.size rfl).keep (Gr.al _ (.cells #[.int .i64 ll, .int .i64 lh, .int .i64 wl, .int .i64 wh, .int .i64 hl, .int .i64 hh, .int .i64 ol, .int .i64 oh, .int .i64 il, .int .i64 ih, .bool true] 133))).keep (Gr.al _ (.cells #[.int .i64 0, .int .i64 0] 37))).keep (Gr.al _ (.cells #[.int .i64 1, .int .i64 10000] 37))
 have hW := ((Box.new (w.alloc (.cells #[.int .i64 tab, .slice pa pan.length pc, .int .i64 hei, .slice ta top.length tc, .slice ba bot.length bc, .int .i64 slo, .bool false, .int .i64 off, .slice ta top.length tc, .slice ba bot.length bc] 124)) [.int .i64 ll, .int .i64 lh, .int .i64 wl, .int .i64 wh, .int .i64 hl, .int .i64 hh, .int .i64 ol, .int .i64 oh, .int .i64 il, .int .i64 ih, .bool true] 133 (w.heap.size + 1) (by simp)).keep (Gr.al _ (.cells #[.int .i64 0, .int .i64 0] 37))).keep (Gr.al _ (.cells #[.int .i64 1, .int .i64 10000] 37))
 have oR := (Own.new ((w.alloc (.cells #[.int .i64 tab, .slice pa pan.length pc, .int .i64 hei, .slice ta top.length tc, .slice ba bot.length bc, .int .i64 slo, .bool false, .int .i64 off, .slice ta top.length tc, .slice ba bot.length bc] 124)).alloc (.cells #[.int .i64 ll, .int .i64 lh, .int .i64 wl, .int .i64 wh, .int .i64 hl, .int .i64 hh, .int .i64 ol, .int .i64 oh, .int .i64 il, .int .i64 ih, .bool true] 133)) [.int .i64 0, .int .i64 0] 37 (w.heap.size + 1 + 1) (by simp)).keep (Gr.al _ (.cells #[.int .i64 1, .int .i64 10000] 37))
 have hA := Own.new (((w.alloc (.cells #[.int .i64 tab, .slice pa pan.length pc, .int .i64 hei, .slice ta top.length tc, .slice ba bot.length bc, .int .i64 slo, .bool false, .int .i64 off, .slice ta top.length tc, .slice ba bot.length bc] 124)).alloc (.cells #[.int .i64 ll, .int .i64 lh, .int .i64 wl, .int .i64 wh, .int .i64 hl, .int .i64 hh, .int .i64 ol, .int .i64 oh, .int .i64 il, .int .i64 ih, .bool true] 133)).alloc (.cells #[.int .i64 0, .int .i64 0] 37)) [.int .i64 1, .int .i64 10000] 37 (w.heap.size + 1 + 1 + 1) (by simp)
 have q6 := hX.2 6 _ rfl
 have p10 := hW.2 10 _ rfl
 have HG := Lib.hid G
 have HH := Lib.hid H
 obtain ⟨f0, f1, f2, f3⟩ := flatS_bd (opn := false) G h2 h3 hk
 obtain ⟨i0, i1, i2, i3⟩ := inS_bd H k
 obtain ⟨m0, m1⟩ := tdiv_bd (lostL_12 k false) (x := (flatS off hei slo pan top bot false k).lo - (inS ll lh wl wh hl hh ol oh il ih k).hi) (by omega) (by omega)
 obtain ⟨r0, r1⟩ := tdiv_bd (lostL_12 k false) (x := (flatS off hei slo pan top bot false k).lo - (inS ll lh wl wh hl hh ol oh il ih k).lo) (by omega) (by omega)
 have hz2 : ¬ lostL k false = 0 := by rcases lostL_12 k false with e | e <;> rw [e] <;> decide
 clear G H
 go_enter Try.func84, Try.ntmps84
 go_upto_region 6 with fail
 clear q6 p10
 refine wp_abs (fun W => Gr w W ∧ Box W w.heap.size [.int .i64 tab, .slice pa pan.length pc, .int .i64 hei, .slice ta top.length tc, .slice ba bot.length bc, .int .i64 slo, .bool false, .int .i64 off, .slice ta top.length tc, .slice ba bot.length bc] ∧ Box W (w.heap.size + 1) [.int .i64 ll, .int .i64 lh, .int .i64 wl, .int .i64 wh, .int .i64 hl, .int .i64 hh, .int .i64 ol, .int .i64 oh, .int .i64 il, .int .i64 ih, .bool true] ∧ Own W (w.heap.size + 1 + 1) [.int .i64 0, .int .i64 0] ∧ Own W (w.heap.size + 1 + 1 + 1) [.int .i64 1, .int .i64 10000]) ⟨gg, hX, hW, oR, hA⟩ ?_
 clear gg hX hW oR hA
 rintro W ⟨gg, hX, hW, oR, hA⟩
 have oR0 := oR
 have hA0 := hA
 refine (show (∀ s : Nat → Value, Code.wp Try.prog _ _ ⟨#[s 0, s 1, .int .i64 k, .pointer (some ⟨w.heap.size, 0, none⟩), .pointer (some ⟨(w.heap.size + 1), 0, none⟩), s 5, .pointer (some ⟨(w.heap.size + 1 + 1), 0, none⟩), .pointer (some ⟨(w.heap.size + 1 + 1 + 1), 0, none⟩), undef, undef, undef, s 11, s 12, s 13, s 14, s 15, s 16, s 17, s 18, s 19, s 20, s 21, s 22, s 23, s 24, s 25, s 26, s 27, s 28, s 29, s 30, s 31, s 32, s 33, s 34, s 35, s 36, s 37, s 38, s 39, s 40, undef, undef, undef, undef, undef, undef, undef, undef, undef, undef, undef, undef, undef, undef, undef, undef, undef, undef, undef, undef, undef, undef, undef, undef, undef, undef], []⟩ _) → _ from fun h => h ((fun l : List Value => fun i => l.getD i undef) [_, _, undef, undef, undef, _, undef, undef, undef, undef, undef, _, _, _, _, _, _, _, _, _, _, _, _, _, _, _, _, _, _, _, _, _, _, _, _, _, _, _, _, _, _])) ?_
 intro s
 dsimp only
 refine wp_region_facts 11 [(2, 0), (2, 1), (3, 2), (6, 4), (6, 5), (9, 7), (9, 8)] (fun x => ⟨#[s 0, s 1, .int .i64 k, .pointer (some ⟨w.heap.size, 0, none⟩), .pointer (some ⟨(w.heap.size + 1), 0, none⟩), s 5, .pointer (some ⟨(w.heap.size + 1 + 1), 0, none⟩), .pointer (some ⟨(w.heap.size + 1 + 1 + 1), 0, none⟩), undef, undef, x 10, s 11, s 12, s 13, s 14, s 15, s 16, s 17, s 18, s 19, s 20, s 21, s 22, s 23, s 24, s 25, s 26, s 27, s 28, s 29, s 30, s 31, s 32, s 33, s 34, s 35, s 36, s 37, s 38, s 39, s 40, x 0, x 1, x 2, x 3, x 4, x 5, x 6, x 7, x 8, x 9, undef, undef, undef, undef, undef, undef, undef, undef, undef, undef, undef, undef, undef, undef, undef, undef], []⟩) (fun _ => undef) [fun _ x => x = .agg #[.int .i64 tab, .slice pa pan.length pc, .int .i64 hei, .slice ta top.length tc, .slice ba bot.length bc, .int .i64 slo, .bool false, .int .i64 off, .slice ta top.length tc, .slice ba bot.length bc], fun _ x => x = .int .i64 k, fun _ x => x = .agg #[.int .i64 (flatS off hei slo pan top bot false k).lo, .int .i64 (flatS off hei slo pan top bot false k).hi], fun _ x => x = .int .i64 (flatS off hei slo pan top bot false k).lo, fun _ x => x = .agg #[.int .i64 tab, .slice pa pan.length pc, .int .i64 hei, .slice ta top.length tc, .slice ba bot.length bc, .int .i64 slo, .bool false, .int .i64 off, .slice ta top.length tc, .slice ba bot.length bc], fun _ x => x = .int .i64 k, fun _ x => x = .int .i64 (lostL k false), fun _ x => x = .agg #[.int .i64 ll, .int .i64 lh, .int .i64 wl, .int .i64 wh, .int .i64 hl, .int .i64 hh, .int .i64 ol, .int .i64 oh, .int .i64 il, .int .i64 ih, .bool true], fun _ x => x = .int .i64 k, fun _ x => x = .agg #[.int .i64 (inS ll lh wl wh hl hh ol oh il ih k).lo, .int .i64 (inS ll lh wl wh hl hh ol oh il ih k).hi], fun v x => ∃ b, x = .pointer (some ⟨b, 0, none⟩) ∧ W.heap.size ≤ b ∧ Own v b [.int .i64 0, .int .i64 0]] (by rfl) (by kernel_rfl) (by kernel_rfl) (by kernel_rfl) (stays_cons (Stays.eq _) (stays_cons (Stays.eq _) (stays_cons (Stays.eq _) (stays_cons (Stays.eq _) (stays_cons (Stays.eq _) (stays_cons (Stays.eq _) (stays_cons (Stays.eq _) (stays_cons (Stays.eq _) (stays_cons (Stays.eq _) (stays_cons (Stays.eq _) (stays_cons ((show Stays (fun v x => ∃ b, x = .pointer (some ⟨b, 0, none⟩) ∧ W.heap.size ≤ b ∧ Own v b [.int .i64 0, .int .i64 0]) from fun v v' x g ⟨b, e, h, o⟩ => ⟨b, e, h, o.keep g⟩)) stays_nil))))))))))) ?step6 ?fin6
 case step6 =>
  rintro i hi x v gv hd K hK
  have hi8 : i = 0 ∨ i = 1 ∨ i = 2 ∨ i = 3 ∨ i = 4 ∨ i = 5 ∨ i = 6 ∨ i = 7 ∨ i = 8 ∨ i = 9 ∨ i = 10 := by omega
  rcases hi8 with rfl | rfl | rfl | rfl | rfl | rfl | rfl | rfl | rfl | rfl | rfl
  ·dsimp only [upd, Nat.reduceBEq, cond_true, cond_false]
   refine wpOp_step rfl (fun K' hK' => ?_)
   rw [if_pos (by rfl)]
   refine wp_load_mid 124 _ rfl w.heap.size 0 (by rfl) [.int .i64 tab, .slice pa pan.length pc, .int .i64 hei, .slice ta top.length tc, .slice ba bot.length bc, .int .i64 slo, .bool false, .int .i64 off, .slice ta top.length tc, .slice ba bot.length bc] _ (fun j u hu => by rw [Nat.zero_add]; exact (hX.keep gv).2 j u hu) Try.underlying124 rfl (by kernel_rfl) ?_
   exact hK' _ _ (hK _ _ (Below.refl _ _) (at_of rfl (rfl)))
  ·dsimp only [upd, Nat.reduceBEq, cond_true, cond_false]
   refine wpOp_step rfl (fun K' hK' => ?_)
   go_simp
   exact hK' _ _ (hK _ _ (Below.refl _ _) (at_of rfl (rfl)))
  ·obtain ⟨x, rfl⟩ := upd_of (show x 0 = .agg #[.int .i64 tab, .slice pa pan.length pc, .int .i64 hei, .slice ta top.length tc, .slice ba bot.length bc, .int .i64 slo, .bool false, .int .i64 off, .slice ta top.length tc, .slice ba bot.length bc] from hd 0 _ (by simp) rfl)
   obtain ⟨x, rfl⟩ := upd_of (show x 1 = .int .i64 k from hd 1 _ (by simp) rfl)
   dsimp only [upd, Nat.reduceBEq, cond_true, cond_false]
   refine wpOp_step rfl (fun K' hK' => ?_)
   go_simp
   refine (flatS_all _ _ _ _ _ _ _ _ _ _ _ _ _ _ h2 h3 k HG.out hk v (hp.grow (gg.tr gv)) (ht.grow (gg.tr gv)) (hb.grow (gg.tr gv))).mono ?_
   rintro e v' ⟨rfl, hg⟩
   exact hK' _ _ (hK _ _ hg (at_of rfl (rfl)))
  ·obtain ⟨x, rfl⟩ := upd_of (show x 2 = .agg #[.int .i64 (flatS off hei slo pan top bot false k).lo, .int .i64 (flatS off hei slo pan top bot false k).hi] from hd 2 _ (by simp) rfl)
   dsimp only [upd, Nat.reduceBEq, cond_true, cond_false]
   refine wpOp_step rfl (fun K' hK' => ?_)
   have q := fieldSp_0 (.int .i64 (flatS off hei slo pan top bot false k).lo) (.int .i64 (flatS off hei slo pan top bot false k).hi) v
   go_simp
   exact hK' _ _ (hK _ _ (Below.refl _ _) (at_of rfl (rfl)))
  ·dsimp only [upd, Nat.reduceBEq, cond_true, cond_false]
   refine wpOp_step rfl (fun K' hK' => ?_)
   rw [if_pos (by rfl)]
   refine wp_load_mid 124 _ rfl w.heap.size 0 (by rfl) [.int .i64 tab, .slice pa pan.length pc, .int .i64 hei, .slice ta top.length tc, .slice ba bot.length bc, .int .i64 slo, .bool false, .int .i64 off, .slice ta top.length tc, .slice ba bot.length bc] _ (fun j u hu => by rw [Nat.zero_add]; exact (hX.keep gv).2 j u hu) Try.underlying124 rfl (by kernel_rfl) ?_
   exact hK' _ _ (hK _ _ (Below.refl _ _) (at_of rfl (rfl)))
  ·dsimp only [upd, Nat.reduceBEq, cond_true, cond_false]
   refine wpOp_step rfl (fun K' hK' => ?_)
   go_simp
   exact hK' _ _ (hK _ _ (Below.refl _ _) (at_of rfl (rfl)))
  ·obtain ⟨x, rfl⟩ := upd_of (show x 4 = .agg #[.int .i64 tab, .slice pa pan.length pc, .int .i64 hei, .slice ta top.length tc, .slice ba bot.length bc, .int .i64 slo, .bool false, .int .i64 off, .slice ta top.length tc, .slice ba bot.length bc] from hd 4 _ (by simp) rfl)
   obtain ⟨x, rfl⟩ := upd_of (show x 5 = .int .i64 k from hd 5 _ (by simp) rfl)
   dsimp only [upd, Nat.reduceBEq, cond_true, cond_false]
   refine wpOp_step rfl (fun K' hK' => ?_)
   go_simp
   refine (lost_any _ _ _ _ _ _ _ _ _ _ _ _ _ _ k v).mono ?_
   rintro e v' ⟨rfl, hg⟩
   exact hK' _ _ (hK _ _ hg (at_of rfl (rfl)))
  ·dsimp only [upd, Nat.reduceBEq, cond_true, cond_false]
   refine wpOp_step rfl (fun K' hK' => ?_)
   rw [if_pos (by rfl)]
   refine wp_load_mid 133 _ rfl (w.heap.size + 1) 0 (by rfl) [.int .i64 ll, .int .i64 lh, .int .i64 wl, .int .i64 wh, .int .i64 hl, .int .i64 hh, .int .i64 ol, .int .i64 oh, .int .i64 il, .int .i64 ih, .bool true] _ (fun j u hu => by rw [Nat.zero_add]; exact (hW.keep gv).2 j u hu) Try.underlying133 rfl (by kernel_rfl) ?_
   exact hK' _ _ (hK _ _ (Below.refl _ _) (at_of rfl (rfl)))
  ·dsimp only [upd, Nat.reduceBEq, cond_true, cond_false]
   refine wpOp_step rfl (fun K' hK' => ?_)
   go_simp
   exact hK' _ _ (hK _ _ (Below.refl _ _) (at_of rfl (rfl)))
  ·obtain ⟨x, rfl⟩ := upd_of (show x 7 = .agg #[.int .i64 ll, .int .i64 lh, .int .i64 wl, .int .i64 wh, .int .i64 hl, .int .i64 hh, .int .i64 ol, .int .i64 oh, .int .i64 il, .int .i64 ih, .bool true] from hd 7 _ (by simp) rfl)
   obtain ⟨x, rfl⟩ := upd_of (show x 8 = .int .i64 k from hd 8 _ (by simp) rfl)
   dsimp only [upd, Nat.reduceBEq, cond_true, cond_false]
   refine wpOp_step rfl (fun K' hK' => ?_)
   go_simp
   refine (in_any ll lh wl wh hl hh ol oh il ih true HH.out k hk v).mono ?_
   rintro e v' ⟨rfl, hg⟩
   exact hK' _ _ (hK _ _ hg (at_of rfl (rfl)))
  ·dsimp only [upd, Nat.reduceBEq, cond_true, cond_false]
   refine wpOp_step rfl (fun K' hK' => ?_)
   go_simp
   have hg := Gr.al v (.cells (List.toArray [.int .i64 0, .int .i64 0]) 37)
   exact hK' _ _ (hK _ _ hg (at_of rfl (⟨v.heap.size, rfl, gv.size, Own.new v [.int .i64 0, .int .i64 0] 37 v.heap.size rfl⟩)))
 case fin6 =>
  rintro x v gv hd
  obtain ⟨x, rfl⟩ := upd_of (show x 3 = .int .i64 (flatS off hei slo pan top bot false k).lo from hd 3 _ (by omega) rfl)
  obtain ⟨x, rfl⟩ := upd_of (show x 6 = .int .i64 (lostL k false) from hd 6 _ (by omega) rfl)
  obtain ⟨x, rfl⟩ := upd_of (show x 9 = .agg #[.int .i64 (inS ll lh wl wh hl hh ol oh il ih k).lo, .int .i64 (inS ll lh wl wh hl hh ol oh il ih k).hi] from hd 9 _ (by omega) rfl)
  obtain ⟨b10, e10, hb10, ow10⟩ := hd 10 _ (by omega) rfl
  obtain ⟨x, rfl⟩ := upd_of (show x 10 = .pointer (some ⟨b10, 0, none⟩) from e10)
  clear hd
  show wpList Try.prog _ _ (List.drop 11 _) (⟨#[_, _, _, _, _, _, _, _, _, _, .pointer (some ⟨b10, 0, none⟩), _, _, _, _, _, _, _, _, _, _, _, _, _, _, _, _, _, _, _, _, _, _, _, _, _, _, _, _, _, _, x 0, x 1, x 2, .int .i64 (flatS off hei slo pan top bot false k).lo, x 4, x 5, .int .i64 (lostL k false), x 7, x 8, .agg #[.int .i64 (inS ll lh wl wh hl hh ol oh il ih k).lo, .int .i64 (inS ll lh wl wh hl hh ol oh il ih k).hi], _, _, _, _, _, _, _, _, _, _, _, _, _, _, _, _], []⟩ : Act) v
  simp only [List.drop_succ_cons, List.drop_zero]
  have gW := gg.tr gv
  have hX := hX.keep gv
  have oR := oR.keep gv
  have hA := hA.keep gv
  have hbw := gg.size
  have hbX := oR.1.1
  have hbR := (show b10 ≠ (w.heap.size + 1 + 1) by have := oR0.1.1; omega)
  have hbA := (show b10 ≠ (w.heap.size + 1 + 1 + 1) by have := hA0.1.1; omega)
  obtain ⟨u0, u1⟩ := ow10.1.c2
  have z0 := ow10.2 0
  have z1 := ow10.2 1
  clear gg gv hW
  go_upto_region 7 with fail
  refine wp_abs (fun V => Gr w V ∧ Own V (w.heap.size + 1 + 1) [.int .i64 0, .int .i64 0] ∧ Own V (w.heap.size + 1 + 1 + 1) [.int .i64 1, .int .i64 10000] ∧ Box V b10 [.int .i64 (inS ll lh wl wh hl hh ol oh il ih k).lo, .int .i64 (inS ll lh wl wh hl hh ol oh il ih k).hi]) ⟨(gW.setCell (by simp; omega) _).setCell (by simp; omega) _, (oR.other (by omega)).other (by omega), (hA.other (by omega)).other (by omega), ((ow10.set (i := 0) (by simp)).set (i := 1) (by simp)).1⟩ ?_
  clear gW oR hA ow10 u0 u1 z0 z1 hX
  rintro V ⟨gg, oR, hA, hI⟩
  have v0 : IntKind.i64.wrap ((flatS off hei slo pan top bot false k).lo - (inS ll lh wl wh hl hh ol oh il ih k).hi) = (flatS off hei slo pan top bot false k).lo - (inS ll lh wl wh hl hh ol oh il ih k).hi := IntWalk.i64_in _ (by omega)
  have v1 : IntKind.i64.wrap ((flatS off hei slo pan top bot false k).lo - (inS ll lh wl wh hl hh ol oh il ih k).lo) = (flatS off hei slo pan top bot false k).lo - (inS ll lh wl wh hl hh ol oh il ih k).lo := IntWalk.i64_in _ (by omega)
  have v2 : IntKind.i64.wrap (((flatS off hei slo pan top bot false k).lo - (inS ll lh wl wh hl hh ol oh il ih k).hi).tdiv (lostL k false)) = ((flatS off hei slo pan top bot false k).lo - (inS ll lh wl wh hl hh ol oh il ih k).hi).tdiv (lostL k false) := IntWalk.i64_in _ (by omega)
  have v3 : IntKind.i64.wrap (((flatS off hei slo pan top bot false k).lo - (inS ll lh wl wh hl hh ol oh il ih k).lo).tdiv (lostL k false)) = ((flatS off hei slo pan top bot false k).lo - (inS ll lh wl wh hl hh ol oh il ih k).lo).tdiv (lostL k false) := IntWalk.i64_in _ (by omega)
  refine (show (∀ s : Nat → Value, Code.wp Try.prog _ _ ⟨#[s 0, s 1, s 2, .pointer (some ⟨w.heap.size, 0, none⟩), .pointer (some ⟨(w.heap.size + 1), 0, none⟩), s 5, .pointer (some ⟨(w.heap.size + 1 + 1), 0, none⟩), .pointer (some ⟨(w.heap.size + 1 + 1 + 1), 0, none⟩), .int .i64 (flatS off hei slo pan top bot false k).lo, .int .i64 (lostL k false), .pointer (some ⟨b10, 0, none⟩), s 11, s 12, s 13, s 14, s 15, s 16, s 17, s 18, s 19, s 20, s 21, s 22, s 23, s 24, s 25, s 26, s 27, s 28, s 29, s 30, s 31, s 32, s 33, s 34, s 35, s 36, s 37, s 38, s 39, s 40, s 41, s 42, s 43, s 44, s 45, s 46, s 47, s 48, s 49, s 50, undef, undef, undef, undef, undef, undef, undef, undef, undef, undef, undef, undef, undef, undef, undef, undef], []⟩ _) → _ from fun h => h ((fun l : List Value => fun i => l.getD i undef) [_, _, _, undef, undef, _, undef, undef, undef, undef, undef, _, _, _, _, _, _, _, _, _, _, _, _, _, _, _, _, _, _, _, _, _, _, _, _, _, _, _, _, _, _, _, _, _, _, _, _, _, _, _, _])) ?_
  clear s
  intro s
  dsimp only
  refine wp_region_facts 16 [(3, 2), (4, 1), (4, 3), (6, 4), (6, 5), (9, 8), (10, 7), (10, 9), (12, 10), (12, 11), (13, 6), (13, 12), (14, 13), (15, 0), (15, 14)] (fun x => ⟨#[s 0, s 1, s 2, .pointer (some ⟨w.heap.size, 0, none⟩), .pointer (some ⟨(w.heap.size + 1), 0, none⟩), s 5, .pointer (some ⟨(w.heap.size + 1 + 1), 0, none⟩), .pointer (some ⟨(w.heap.size + 1 + 1 + 1), 0, none⟩), .int .i64 (flatS off hei slo pan top bot false k).lo, .int .i64 (lostL k false), .pointer (some ⟨b10, 0, none⟩), s 11, s 12, s 13, s 14, s 15, s 16, s 17, s 18, s 19, s 20, s 21, s 22, s 23, s 24, s 25, s 26, s 27, s 28, s 29, s 30, s 31, s 32, s 33, s 34, s 35, s 36, s 37, s 38, s 39, s 40, s 41, s 42, s 43, s 44, s 45, s 46, s 47, s 48, s 49, s 50, x 0, x 1, x 2, x 3, x 4, x 5, x 6, x 7, x 8, x 9, x 10, x 11, x 12, x 13, x 14, x 15], []⟩) (fun _ => undef) [fun _ x => x = .agg #[.int .i64 1, .int .i64 10000], fun _ x => x = .int .i64 (flatS off hei slo pan top bot false k).lo, fun _ x => x = .pointer (some ⟨b10, 1, none⟩), fun _ x => x = .int .i64 (inS ll lh wl wh hl hh ol oh il ih k).hi, fun _ x => x = .int .i64 ((flatS off hei slo pan top bot false k).lo - (inS ll lh wl wh hl hh ol oh il ih k).hi), fun _ x => x = .int .i64 (lostL k false), fun _ x => x = .int .i64 (((flatS off hei slo pan top bot false k).lo - (inS ll lh wl wh hl hh ol oh il ih k).hi).tdiv (lostL k false)), fun _ x => x = .int .i64 (flatS off hei slo pan top bot false k).lo, fun _ x => x = .pointer (some ⟨b10, 0, none⟩), fun _ x => x = .int .i64 (inS ll lh wl wh hl hh ol oh il ih k).lo, fun _ x => x = .int .i64 ((flatS off hei slo pan top bot false k).lo - (inS ll lh wl wh hl hh ol oh il ih k).lo), fun _ x => x = .int .i64 (lostL k false), fun _ x => x = .int .i64 (((flatS off hei slo pan top bot false k).lo - (inS ll lh wl wh hl hh ol oh il ih k).lo).tdiv (lostL k false)), fun _ x => x = .agg #[.int .i64 (((flatS off hei slo pan top bot false k).lo - (inS ll lh wl wh hl hh ol oh il ih k).hi).tdiv (lostL k false)), .int .i64 (((flatS off hei slo pan top bot false k).lo - (inS ll lh wl wh hl hh ol oh il ih k).lo).tdiv (lostL k false))], fun v x => ∃ a, x = .slice a 1 1 ∧ SRow v a [⟨((flatS off hei slo pan top bot false k).lo - (inS ll lh wl wh hl hh ol oh il ih k).hi).tdiv (lostL k false), ((flatS off hei slo pan top bot false k).lo - (inS ll lh wl wh hl hh ol oh il ih k).lo).tdiv (lostL k false)⟩], fun _ x => x = .agg #[.int .i64 (max 1 (((flatS off hei slo pan top bot false k).lo - (inS ll lh wl wh hl hh ol oh il ih k).hi).tdiv (lostL k false))), .int .i64 (min 10000 (((flatS off hei slo pan top bot false k).lo - (inS ll lh wl wh hl hh ol oh il ih k).lo).tdiv (lostL k false)))]] (by rfl) (by kernel_rfl) (by kernel_rfl) (by kernel_rfl) (stays_cons (Stays.eq _) (stays_cons (Stays.eq _) (stays_cons (Stays.eq _) (stays_cons (Stays.eq _) (stays_cons (Stays.eq _) (stays_cons (Stays.eq _) (stays_cons (Stays.eq _) (stays_cons (Stays.eq _) (stays_cons (Stays.eq _) (stays_cons (Stays.eq _) (stays_cons (Stays.eq _) (stays_cons (Stays.eq _) (stays_cons (Stays.eq _) (stays_cons (Stays.eq _) (stays_cons ((show Stays (fun v x => ∃ a, x = .slice a 1 1 ∧ SRow v a [⟨((flatS off hei slo pan top bot false k).lo - (inS ll lh wl wh hl hh ol oh il ih k).hi).tdiv (lostL k false), ((flatS off hei slo pan top bot false k).lo - (inS ll lh wl wh hl hh ol oh il ih k).lo).tdiv (lostL k false)⟩]) from fun v v' x g ⟨a, e, r⟩ => ⟨a, e, r.grow g⟩)) (stays_cons (Stays.eq _) stays_nil)))))))))))))))) ?step7 ?fin7
  case step7 =>
   rintro i hi x v gv hd K hK
   have hi8 : i = 0 ∨ i = 1 ∨ i = 2 ∨ i = 3 ∨ i = 4 ∨ i = 5 ∨ i = 6 ∨ i = 7 ∨ i = 8 ∨ i = 9 ∨ i = 10 ∨ i = 11 ∨ i = 12 ∨ i = 13 ∨ i = 14 ∨ i = 15 := by omega
   rcases hi8 with rfl | rfl | rfl | rfl | rfl | rfl | rfl | rfl | rfl | rfl | rfl | rfl | rfl | rfl | rfl | rfl
   ·dsimp only [upd, Nat.reduceBEq, cond_true, cond_false]
    refine wpOp_step rfl (fun K' hK' => ?_)
    rw [if_pos (by rfl)]
    refine wp_load_mid 37 _ rfl (w.heap.size + 1 + 1 + 1) 0 (by rfl) [.int .i64 1, .int .i64 10000] _ (fun j u hu => by rw [Nat.zero_add]; exact (hA.1.keep gv).2 j u hu) Try.underlying37 rfl (by kernel_rfl) ?_
    exact hK' _ _ (hK _ _ (Below.refl _ _) (at_of rfl (rfl)))
   ·dsimp only [upd, Nat.reduceBEq, cond_true, cond_false]
    refine wpOp_step rfl (fun K' hK' => ?_)
    go_simp
    exact hK' _ _ (hK _ _ (Below.refl _ _) (at_of rfl (rfl)))
   ·dsimp only [upd, Nat.reduceBEq, cond_true, cond_false]
    refine wpOp_step rfl (fun K' hK' => ?_)
    go_simp
    exact hK' _ _ (hK _ _ (Below.refl _ _) (at_of rfl (rfl)))
   ·obtain ⟨x, rfl⟩ := upd_of (show x 2 = .pointer (some ⟨b10, 1, none⟩) from hd 2 _ (by simp) rfl)
    dsimp only [upd, Nat.reduceBEq, cond_true, cond_false]
    refine wpOp_step rfl (fun K' hK' => ?_)
    have q := (hI.keep gv).2 1 _ rfl
    go_simp
    exact hK' _ _ (hK _ _ (Below.refl _ _) (at_of rfl (rfl)))
   ·obtain ⟨x, rfl⟩ := upd_of (show x 1 = .int .i64 (flatS off hei slo pan top bot false k).lo from hd 1 _ (by simp) rfl)
    obtain ⟨x, rfl⟩ := upd_of (show x 3 = .int .i64 (inS ll lh wl wh hl hh ol oh il ih k).hi from hd 3 _ (by simp) rfl)
    dsimp only [upd, Nat.reduceBEq, cond_true, cond_false]
    refine wpOp_step rfl (fun K' hK' => ?_)
    go_simp
    exact hK' _ _ (hK _ _ (Below.refl _ _) (at_of rfl (rfl)))
   ·dsimp only [upd, Nat.reduceBEq, cond_true, cond_false]
    refine wpOp_step rfl (fun K' hK' => ?_)
    go_simp
    exact hK' _ _ (hK _ _ (Below.refl _ _) (at_of rfl (rfl)))
   ·obtain ⟨x, rfl⟩ := upd_of (show x 4 = .int .i64 ((flatS off hei slo pan top bot false k).lo - (inS ll lh wl wh hl hh ol oh il ih k).hi) from hd 4 _ (by simp) rfl)
    obtain ⟨x, rfl⟩ := upd_of (show x 5 = .int .i64 (lostL k false) from hd 5 _ (by simp) rfl)
    dsimp only [upd, Nat.reduceBEq, cond_true, cond_false]
    refine wpOp_step rfl (fun K' hK' => ?_)
    go_simp
    exact hK' _ _ (hK _ _ (Below.refl _ _) (at_of rfl (rfl)))
   ·dsimp only [upd, Nat.reduceBEq, cond_true, cond_false]
    refine wpOp_step rfl (fun K' hK' => ?_)
    go_simp
    exact hK' _ _ (hK _ _ (Below.refl _ _) (at_of rfl (rfl)))
   ·dsimp only [upd, Nat.reduceBEq, cond_true, cond_false]
    refine wpOp_step rfl (fun K' hK' => ?_)
    go_simp
    exact hK' _ _ (hK _ _ (Below.refl _ _) (at_of rfl (rfl)))
   ·obtain ⟨x, rfl⟩ := upd_of (show x 8 = .pointer (some ⟨b10, 0, none⟩) from hd 8 _ (by simp) rfl)
    dsimp only [upd, Nat.reduceBEq, cond_true, cond_false]
    refine wpOp_step rfl (fun K' hK' => ?_)
    have q := (hI.keep gv).2 0 _ rfl
    go_simp
    exact hK' _ _ (hK _ _ (Below.refl _ _) (at_of rfl (rfl)))
   ·obtain ⟨x, rfl⟩ := upd_of (show x 7 = .int .i64 (flatS off hei slo pan top bot false k).lo from hd 7 _ (by simp) rfl)
    obtain ⟨x, rfl⟩ := upd_of (show x 9 = .int .i64 (inS ll lh wl wh hl hh ol oh il ih k).lo from hd 9 _ (by simp) rfl)
    dsimp only [upd, Nat.reduceBEq, cond_true, cond_false]
    refine wpOp_step rfl (fun K' hK' => ?_)
    go_simp
    exact hK' _ _ (hK _ _ (Below.refl _ _) (at_of rfl (rfl)))
   ·dsimp only [upd, Nat.reduceBEq, cond_true, cond_false]
    refine wpOp_step rfl (fun K' hK' => ?_)
    go_simp
    exact hK' _ _ (hK _ _ (Below.refl _ _) (at_of rfl (rfl)))
   ·obtain ⟨x, rfl⟩ := upd_of (show x 10 = .int .i64 ((flatS off hei slo pan top bot false k).lo - (inS ll lh wl wh hl hh ol oh il ih k).lo) from hd 10 _ (by simp) rfl)
    obtain ⟨x, rfl⟩ := upd_of (show x 11 = .int .i64 (lostL k false) from hd 11 _ (by simp) rfl)
    dsimp only [upd, Nat.reduceBEq, cond_true, cond_false]
    refine wpOp_step rfl (fun K' hK' => ?_)
    go_simp
    exact hK' _ _ (hK _ _ (Below.refl _ _) (at_of rfl (rfl)))
   ·obtain ⟨x, rfl⟩ := upd_of (show x 6 = .int .i64 (((flatS off hei slo pan top bot false k).lo - (inS ll lh wl wh hl hh ol oh il ih k).hi).tdiv (lostL k false)) from hd 6 _ (by simp) rfl)
    obtain ⟨x, rfl⟩ := upd_of (show x 12 = .int .i64 (((flatS off hei slo pan top bot false k).lo - (inS ll lh wl wh hl hh ol oh il ih k).lo).tdiv (lostL k false)) from hd 12 _ (by simp) rfl)
    dsimp only [upd, Nat.reduceBEq, cond_true, cond_false]
    refine wpOp_step rfl (fun K' hK' => ?_)
    go_simp
    exact hK' _ _ (hK _ _ (Below.refl _ _) (at_of rfl (rfl)))
   ·obtain ⟨x, rfl⟩ := upd_of (show x 13 = .agg #[.int .i64 (((flatS off hei slo pan top bot false k).lo - (inS ll lh wl wh hl hh ol oh il ih k).hi).tdiv (lostL k false)), .int .i64 (((flatS off hei slo pan top bot false k).lo - (inS ll lh wl wh hl hh ol oh il ih k).lo).tdiv (lostL k false))] from hd 13 _ (by simp) rfl)
    dsimp only [upd, Nat.reduceBEq, cond_true, cond_false]
    refine wpOp_step rfl (fun K' hK' => ?_)
    go_simp
    have hg := Gr.al v (.cells (List.toArray [.int .i64 (((flatS off hei slo pan top bot false k).lo - (inS ll lh wl wh hl hh ol oh il ih k).hi).tdiv (lostL k false)), .int .i64 (((flatS off hei slo pan top bot false k).lo - (inS ll lh wl wh hl hh ol oh il ih k).lo).tdiv (lostL k false))]) 37)
    exact hK' _ _ (hK _ _ hg (at_of rfl (⟨_, rfl, SRow.new1 v 37 (((flatS off hei slo pan top bot false k).lo - (inS ll lh wl wh hl hh ol oh il ih k).hi).tdiv (lostL k false)) (((flatS off hei slo pan top bot false k).lo - (inS ll lh wl wh hl hh ol oh il ih k).lo).tdiv (lostL k false)) v.heap.size rfl⟩)))
   ·obtain ⟨x, rfl⟩ := upd_of (show x 0 = .agg #[.int .i64 1, .int .i64 10000] from hd 0 _ (by simp) rfl)
    obtain ⟨a14, e14, r14⟩ := hd 14 _ (by simp) rfl
    obtain ⟨x, rfl⟩ := upd_of (show x 14 = .slice a14 1 1 from e14)
    dsimp only [upd, Nat.reduceBEq, cond_true, cond_false]
    refine wpOp_step rfl (fun K' hK' => ?_)
    go_simp
    refine (meet_one ⟨1, 10000⟩ (((flatS off hei slo pan top bot false k).lo - (inS ll lh wl wh hl hh ol oh il ih k).hi).tdiv (lostL k false)) (((flatS off hei slo pan top bot false k).lo - (inS ll lh wl wh hl hh ol oh il ih k).lo).tdiv (lostL k false)) a14 1 v r14).mono ?_
    rintro e v' ⟨rfl, hg⟩
    exact hK' _ _ (hK _ _ hg (at_of rfl (rfl)))
  case fin7 =>
   rintro x v gv hd
   obtain ⟨x, rfl⟩ := upd_of (show x 15 = .agg #[.int .i64 (max 1 (((flatS off hei slo pan top bot false k).lo - (inS ll lh wl wh hl hh ol oh il ih k).hi).tdiv (lostL k false))), .int .i64 (min 10000 (((flatS off hei slo pan top bot false k).lo - (inS ll lh wl wh hl hh ol oh il ih k).lo).tdiv (lostL k false)))] from hd 15 _ (by omega) rfl)
   clear hd
   show wpList Try.prog _ _ (List.drop 16 _) (⟨#[_, _, _, _, _, _, _, _, _, _, _, _, _, _, _, _, _, _, _, _, _, _, _, _, _, _, _, _, _, _, _, _, _, _, _, _, _, _, _, _, _, _, _, _, _, _, _, _, _, _, _, x 0, x 1, x 2, x 3, x 4, x 5, x 6, x 7, x 8, x 9, x 10, x 11, x 12, x 13, x 14, .agg #[.int .i64 (max 1 (((flatS off hei slo pan top bot false k).lo - (inS ll lh wl wh hl hh ol oh il ih k).hi).tdiv (lostL k false))), .int .i64 (min 10000 (((flatS off hei slo pan top bot false k).lo - (inS ll lh wl wh hl hh ol oh il ih k).lo).tdiv (lostL k false)))]], []⟩ : Act) v
   simp only [List.drop_succ_cons, List.drop_zero]
   have ob := oR.keep gv
   have gW := gg.tr gv
   obtain ⟨u0, u1⟩ := ob.1.c2
   have z0 := ob.2 0
   have z1 := ob.2 1
   clear v0 v1 v2 v3
   go_wp2
   have o1 := ((ob.set (i := 0) (v := .int .i64 (max 1 (((flatS off hei slo pan top bot false k).lo - (inS ll lh wl wh hl hh ol oh il ih k).hi).tdiv (lostL k false)))) (by simp)).set (i := 1) (v := .int .i64 (min 10000 (((flatS off hei slo pan top bot false k).lo - (inS ll lh wl wh hl hh ol oh il ih k).lo).tdiv (lostL k false)))) (by simp)).1.c2
   obtain ⟨o10, o11⟩ := o1
   refine bodyPost_ret (v := .agg #[.int .i64 (max 1 (((flatS off hei slo pan top bot false k).lo - (inS ll lh wl wh hl hh ol oh il ih k).hi).tdiv (lostL k false))), .int .i64 (min 10000 (((flatS off hei slo pan top bot false k).lo - (inS ll lh wl wh hl hh ol oh il ih k).lo).tdiv (lostL k false)))]) (by simp [results, Try.results84, go_sem, o10, o11]) rfl ⟨rfl, ?_⟩
   exact (gW.setCell (by simp; omega) _).setCell (by simp; omega) _

theorem holding_any (tab hei slo off : Int) (pan top bot : List Int) (pa ta ba : Option Addr) (pc tc bc : Nat) (opn wo : Bool) (ll lh wl wh hl hh ol oh il ih : Int) (k : Nat) (hk : k < 10) (G : ShK hei slo pan top bot k) (H : GoodWish ll lh wl wh hl hh ol oh il ih) (h2 : 0 ≤ off) (h3 : off ≤ 3000) (w : World) (hp : IRow w pa pan) (ht : IRow w ta top) (hb : IRow w ba bot) :
  Calls Try.prog 84 #[.agg #[.int .i64 tab, .slice pa pan.length pc, .int .i64 hei, .slice ta top.length tc, .slice ba bot.length bc, .int .i64 slo, .bool opn, .int .i64 off, .slice ta top.length tc, .slice ba bot.length bc], .agg #[.int .i64 ll, .int .i64 lh, .int .i64 wl, .int .i64 wh, .int .i64 hl, .int .i64 hh, .int .i64 ol, .int .i64 oh, .int .i64 il, .int .i64 ih, .bool wo], .int .i64 k] w fun e w' => e = .returned (.agg #[.int .i64 (holdL off hei slo pan top bot opn ll lh wl wh hl hh ol oh il ih wo k).lo, .int .i64 (holdL off hei slo pan top bot opn ll lh wl wh hl hh ol oh il ih wo k).hi]) ∧ Gr w w' := by
 have k5 : k ≠ 5 → ((k : Int) == 5) = false := fun h => by rw [beq_eq_false_iff_ne]; omega
 have k6 : k ≠ 6 → ((k : Int) == 6) = false := fun h => by rw [beq_eq_false_iff_ne]; omega
 by_cases h56 : k = 5 ∨ k = 6
 ·rcases h56 with rfl | rfl <;> cases opn <;> cases wo <;> simp only [holdL, Bool.or_self, Bool.or_true, Bool.or_false, Bool.true_or, Bool.false_or, Bool.false_eq_true, false_and, true_and, if_false, if_true, true_or, or_true, ne_eq, reduceCtorEq, not_false_eq_true, not_true_eq_false, and_false, and_true, Nat.reduceEqDiff]
  ·exact hold_ff tab hei slo off pan top bot pa ta ba pc tc bc ll lh wl wh hl hh ol oh il ih 5 (by omega) G H h2 h3 w hp ht hb
  ·exact hold_5ft tab hei slo off pan top bot pa ta ba pc tc bc ll lh wl wh hl hh ol oh il ih G H h2 h3 w hp ht hb
  ·exact hold_5tf tab hei slo off pan top bot pa ta ba pc tc bc ll lh wl wh hl hh ol oh il ih G H h2 h3 w hp ht hb
  ·exact hold_5tt tab hei slo off pan top bot pa ta ba pc tc bc ll lh wl wh hl hh ol oh il ih G H h2 h3 w hp ht hb
  ·exact hold_ff tab hei slo off pan top bot pa ta ba pc tc bc ll lh wl wh hl hh ol oh il ih 6 (by omega) G H h2 h3 w hp ht hb
  ·exact hold_6ft tab hei slo off pan top bot pa ta ba pc tc bc ll lh wl wh hl hh ol oh il ih G H h2 h3 w hp ht hb
  ·exact hold_6tf tab hei slo off pan top bot pa ta ba pc tc bc ll lh wl wh hl hh ol oh il ih G H h2 h3 w hp ht hb
  ·exact hold_6tt tab hei slo off pan top bot pa ta ba pc tc bc ll lh wl wh hl hh ol oh il ih G H h2 h3 w hp ht hb
 ·have a5 : k ≠ 5 := fun e => h56 (.inl e)
  have a6 : k ≠ 6 := fun e => h56 (.inr e)
  have E : holdL off hei slo pan top bot opn ll lh wl wh hl hh ol oh il ih wo k = ⟨max 1 (((flatS off hei slo pan top bot opn k).lo - (inS ll lh wl wh hl hh ol oh il ih k).hi).tdiv (lostL k opn)), min 10000 (((flatS off hei slo pan top bot opn k).lo - (inS ll lh wl wh hl hh ol oh il ih k).lo).tdiv (lostL k opn))⟩ := by
   unfold holdL
   rw [if_neg (fun e => h56 e.2)]
  rw [E]
  cases opn
  ·cases wo
   ·exact hold_ff tab hei slo off pan top bot pa ta ba pc tc bc ll lh wl wh hl hh ol oh il ih k hk G H h2 h3 w hp ht hb
   ·exact hold_ft tab hei slo off pan top bot pa ta ba pc tc bc ll lh wl wh hl hh ol oh il ih k hk G H h2 h3 (k5 a5) (k6 a6) w hp ht hb
  ·exact hold_tx tab hei slo off pan top bot pa ta ba pc tc bc wo ll lh wl wh hl hh ol oh il ih k hk G H h2 h3 (k5 a5) (k6 a6) w hp ht hb

end Go.Proofs.Ytoihnilgmdcndaa

namespace Go.Proofs.Ytoihnilgmdcndaa
set_option linter.unusedVariables false
set_option linter.unusedSimpArgs false
open Go.RowKit

/-- The first number below n with p; n if there is none. -/
def firstN (p : Nat → Bool) (n : Nat) : Nat := ((List.range n).find? p).getD n

theorem firstN_is {p : Nat → Bool} {n r : Nat} (hr : r ≤ n) (h1 : ∀ i, i < r → p i = false) (h2 : r < n → p r = true) : firstN p n = r := by
  unfold firstN
  by_cases h : r < n
  · have e : (List.range n).find? p = some r := by
      rw [List.find?_range_eq_some]
      exact ⟨h2 h, List.mem_range.2 h, fun j hj => by simp [h1 j hj]⟩
    rw [e]; rfl
  · have e : (List.range n).find? p = none := by
      rw [List.find?_range_eq_none]
      intro i tp
      simp [h1 i (by omega)]
    rw [e]
    show n = r
    omega

theorem firstN_le (p : Nat → Bool) (n : Nat) : firstN p n ≤ n := by
  unfold firstN
  cases e : (List.range n).find? p with
  | none => exact Nat.le_refl _
  | some r =>
    have := List.mem_range.1 (List.mem_of_find?_eq_some e)
    exact Nat.le_of_lt this

/-- A blank that is being drawn. -/
structure Dr where
  p : List Int
  t : List Int
  b : List Int
  hei : Int
  slo : Int

/-- A wish. -/
structure Wi where
  ll : Int
  lh : Int
  wl : Int
  wh : Int
  hl : Int
  hh : Int
  ol : Int
  oh : Int
  il : Int
  ih : Int
  wo : Bool

def Wi.ok (W : Wi) : Prop := GoodWish W.ll W.lh W.wl W.wh W.hl W.hh W.ol W.oh W.il W.ih

/-- A measure. -/
inductive Me where
  | pan (i : Nat)
  | top (i : Nat)
  | bot (i : Nat)
  | hei
  | slo

def Dr.put (d : Dr) : Me → Int → Dr
  | .pan i, v => { d with p := d.p.set i v }
  | .top i, v => { d with t := d.t.set i v }
  | .bot i, v => { d with b := d.b.set i v }
  | .hei, v => { d with hei := v }
  | .slo, v => { d with slo := v }

theorem Dr.put_put (d : Dr) (m : Me) (u v : Int) : (d.put m u).put m v = d.put m v := by
  cases m <;> simp [Dr.put, List.set_set]

/-- Lengths as they must be. -/
structure DrL (d : Dr) : Prop where
  p : d.p.length = 4
  t : d.t.length = 2
  b : d.b.length = 2

theorem DrL.put {d : Dr} (h : DrL d) (m : Me) (v : Int) : DrL (d.put m v) := by
  cases m <;> exact ⟨by simp [Dr.put, h.p], by simp [Dr.put, h.t], by simp [Dr.put, h.b]⟩

/-- With which calipers a check of a drawn blank holds. -/
def hL (opn : Bool) (W : Wi) (d : Dr) (k : Nat) : Sp := holdL 0 d.hei d.slo d.p d.t d.b opn W.ll W.lh W.wl W.wh W.hl W.hh W.ol W.oh W.il W.ih W.wo k

abbrev DrK (d : Dr) (k : Nat) : Prop := ShK d.hei d.slo d.p d.t d.b k

def okAll (s : Sp) (cl ch : Int) : Bool := inB s.lo s.hi [cl, ch]

def riseE (ch : Int) (s : Sp) : Bool := decide (ch ≤ s.hi)

def fallE (cl : Int) (s : Sp) : Bool := decide (s.lo ≤ cl)

/-- How far the first measure of a room lies that is enough. -/
def leastD (opn : Bool) (W : Wi) (en : Sp → Bool) (k : Nat) (room : Sp) (m : Me) (d : Dr) : Nat :=
  firstN (fun i => en (hL opn W (d.put m (room.lo + (i : Int))) k)) (room.hi - room.lo + 1).toNat

/-- The blank behind a draw, and whether the check holds with all calipers. -/
def drawD (opn : Bool) (W : Wi) (cl ch : Int) (en : Sp → Bool) (k : Nat) (room : Sp) (m : Me) (d : Dr) : Dr × Bool :=
  (d.put m (room.lo + (leastD opn W en k room m d : Int)), decide (leastD opn W en k room m d < (room.hi - room.lo + 1).toNat) && okAll (hL opn W (d.put m (room.lo + (leastD opn W en k room m d : Int))) k) cl ch)

/-- The sheet among whose true blanks the search looks. -/
structure Rm where
  off : Int
  hei : Int
  slo : Int
  pan : List Int
  top : List Int
  bot : List Int
  opn : Bool

def Rm.pn (R : Rm) (i : Nat) : Sp := nearL R.off (R.pan.getD i 0) 1 3000

def Rm.he (R : Rm) : Sp := nearL R.off R.hei 1 3000

def Rm.sl (R : Rm) : Sp := nearL R.off R.slo 0 20

def Rm.fl (R : Rm) (k : Nat) : Sp := flapS R.opn R.off R.top R.bot ((k - 5) / 2) ((k - 5) % 2)

def meOf (k : Nat) : Me := if k < 7 then .top ((k - 5) % 2) else .bot ((k - 5) % 2)

/-- The flaps that close over panel i, from check k on; n checks are left. -/
def flapsFrom (R : Rm) (W : Wi) (cl ch : Int) (i : Nat) : Nat → Nat → Dr → Dr × Nat
  | 0, _, d => (d, 10)
  | n + 1, k, d =>
    if 1 - (k - 5) % 2 = i then
      (if (drawD R.opn W cl ch (fallE cl) k (R.fl k) (meOf k) d).2 = true then flapsFrom R W cl ch i n (k + 1) (drawD R.opn W cl ch (fallE cl) k (R.fl k) (meOf k) d).1
       else ((drawD R.opn W cl ch (fallE cl) k (R.fl k) (meOf k) d).1, k))
    else flapsFrom R W cl ch i n (k + 1) d

def flapsD (R : Rm) (W : Wi) (cl ch : Int) (i : Nat) (d : Dr) : Dr × Nat := flapsFrom R W cl ch i 4 5 d

/-- The panels from long on; n are left. -/
def panelFrom (R : Rm) (W : Wi) (cl ch : Int) (i : Nat) : Nat → Int → Dr → Nat → Dr × Nat
  | 0, _, d, f => (d, f)
  | n + 1, long, d, f =>
    if okAll (hL R.opn W (d.put (.pan i) long) i) cl ch = true then
      (if max f (flapsD R W cl ch i (d.put (.pan i) long)).2 = 10 then ((flapsD R W cl ch i (d.put (.pan i) long)).1, 10)
       else panelFrom R W cl ch i n (long + 1) (flapsD R W cl ch i (d.put (.pan i) long)).1 (max f (flapsD R W cl ch i (d.put (.pan i) long)).2))
    else (d.put (.pan i) long, f)

def riseD (R : Rm) (W : Wi) (cl ch : Int) (k : Nat) (room : Sp) (m : Me) (d : Dr) : Dr × Bool := drawD R.opn W cl ch (riseE ch) k room m d

def panelD (R : Rm) (W : Wi) (cl ch : Int) (i : Nat) (d : Dr) : Dr × Nat :=
  if (riseD R W cl ch i (R.pn i) (.pan i) d).2 = true then
    panelFrom R W cl ch i ((R.pn i).hi - (riseD R W cl ch i (R.pn i) (.pan i) d).1.p.getD i 0 + 1).toNat ((riseD R W cl ch i (R.pn i) (.pan i) d).1.p.getD i 0) (riseD R W cl ch i (R.pn i) (.pan i) d).1 i
  else ((riseD R W cl ch i (R.pn i) (.pan i) d).1, i)

def Dr.zero : Dr := ⟨[0, 0, 0, 0], [0, 0], [0, 0], 0, 0⟩

/-- Behind the first n panels. -/
def panelsD (R : Rm) (W : Wi) (cl ch : Int) : Nat → Dr × Nat
  | 0 => (Dr.zero, 10)
  | n + 1 => ((panelD R W cl ch n (panelsD R W cl ch n).1).1, min (panelsD R W cl ch n).2 (panelD R W cl ch n (panelsD R W cl ch n).1).2)

def failIf (ok : Bool) (f k : Nat) : Nat := if ok = true then f else min f k

def heightD (R : Rm) (W : Wi) (cl ch : Int) : Dr × Bool := riseD R W cl ch 4 R.he .hei (panelsD R W cl ch 4).1

def slotD (R : Rm) (W : Wi) (cl ch : Int) : Dr × Bool := riseD R W cl ch 9 R.sl .slo (heightD R W cl ch).1

/-- The smallest blank, and the first check that none meets. -/
def smallD (R : Rm) (W : Wi) (cl ch : Int) : Dr × Nat :=
  ((slotD R W cl ch).1, failIf (slotD R W cl ch).2 (failIf (heightD R W cl ch).2 (panelsD R W cl ch 4).2 4) 9)

/-- What is greater than enough is enough. -/
theorem near0 (v lo hi : Int) : nearL 0 v lo hi = ⟨max lo v, min hi v⟩ := by simp [nearL]

theorem tdiv_mono {a b l : Int} (hl : l = 1 ∨ l = 2) (h : a ≤ b) : a.tdiv l ≤ b.tdiv l := by
  rcases hl with rfl | rfl
  · simpa using h
  · exact Int.tdiv_le_tdiv (by decide) h

theorem getD_set {l : List Int} {i : Nat} (hi : i < l.length) (v : Int) : (l.set i v).getD i 0 = v := by
  simp [List.getD, hi]

theorem flat_grows {opn : Bool} {d : Dr} {k : Nat} {m : Me} (hm : (k < 4 ∧ m = .pan k) ∨ (k = 4 ∧ m = .hei) ∨ (k = 9 ∧ m = .slo)) (hd : DrL d) {u v : Int} (h : u ≤ v) :
    (flatS 0 (d.put m u).hei (d.put m u).slo (d.put m u).p (d.put m u).t (d.put m u).b opn k).lo ≤ (flatS 0 (d.put m v).hei (d.put m v).slo (d.put m v).p (d.put m v).t (d.put m v).b opn k).lo := by
  have h4 := hd.p
  rcases hm with ⟨hk, rfl⟩ | ⟨rfl, rfl⟩ | ⟨rfl, rfl⟩
  · simp only [flatS, flatAt, if_neg (show ¬ k = 9 by omega), if_pos hk, Dr.put, near0]
    rw [getD_set (by omega), getD_set (by omega)]
    omega
  · simp only [flatS, flatAt, if_neg (show ¬ (4 : Nat) = 9 by decide), if_neg (show ¬ (4 : Nat) < 4 by decide), if_pos, Dr.put, near0]
    omega
  · simp only [flatS, if_pos, Dr.put, near0]
    omega

theorem rise_mono {opn : Bool} {W : Wi} {d : Dr} {k : Nat} {m : Me} {ch : Int} (hm : (k < 4 ∧ m = .pan k) ∨ (k = 4 ∧ m = .hei) ∨ (k = 9 ∧ m = .slo)) (hd : DrL d) {u v : Int} (h : u ≤ v)
    (he : riseE ch (hL opn W (d.put m u) k) = true) : riseE ch (hL opn W (d.put m v) k) = true := by
  have hf := flat_grows (opn := opn) hm hd h
  have h56 : ¬ (k = 5 ∨ k = 6) := by rcases hm with ⟨hk, _⟩ | ⟨hk, _⟩ | ⟨hk, _⟩ <;> omega
  unfold riseE hL holdL at *
  rw [if_neg (fun x => h56 x.2)] at *
  simp only [decide_eq_true_eq] at *
  have := tdiv_mono (lostL_12 (k : Int) opn) (Int.sub_le_sub_right hf (inS W.ll W.lh W.wl W.wh W.hl W.hh W.ol W.oh W.il W.ih k).lo)
  omega

theorem gap_falls {opn : Bool} {d : Dr} {k : Nat} (h5 : 5 ≤ k) (h8 : k ≤ 8) (hd : DrL d) {u v : Int} (h : u ≤ v) :
    (flatS 0 (d.put (meOf k) v).hei (d.put (meOf k) v).slo (d.put (meOf k) v).p (d.put (meOf k) v).t (d.put (meOf k) v).b opn k).lo ≤ (flatS 0 (d.put (meOf k) u).hei (d.put (meOf k) u).slo (d.put (meOf k) u).p (d.put (meOf k) u).t (d.put (meOf k) u).b opn k).lo := by
  have ht := hd.t
  have hb := hd.b
  simp only [flatS, flatAt, if_neg (show ¬ k = 9 by omega), if_neg (show ¬ k < 4 by omega), if_neg (show ¬ k = 4 by omega), gapS, flapS, meOf]
  by_cases h7 : k < 7
  · simp only [if_pos h7, Dr.put, if_pos (show (k - 5) / 2 = 0 by omega)]
    cases opn with
    | true => simp
    | false =>
      simp only [near0, Bool.false_eq_true, if_false]
      rw [getD_set (by omega), getD_set (by omega)]
      omega
  · simp only [if_neg h7, Dr.put, if_neg (show ¬ (k - 5) / 2 = 0 by omega), near0]
    rw [getD_set (by omega), getD_set (by omega)]
    omega

theorem fall_mono {opn : Bool} {W : Wi} {d : Dr} {k : Nat} {cl : Int} (h5 : 5 ≤ k) (h8 : k ≤ 8) (hd : DrL d) {u v : Int} (h : u ≤ v)
    (he : fallE cl (hL opn W (d.put (meOf k) u) k) = true) : fallE cl (hL opn W (d.put (meOf k) v) k) = true := by
  have hf := gap_falls (opn := opn) h5 h8 hd h
  unfold fallE hL holdL at *
  by_cases c : (opn || W.wo) = true ∧ (k = 5 ∨ k = 6)
  · rw [if_pos c] at *
    exact he
  · rw [if_neg c] at *
    simp only [decide_eq_true_eq] at *
    have := tdiv_mono (lostL_12 (k : Int) opn) (Int.sub_le_sub_right hf (inS W.ll W.lh W.wl W.wh W.hl W.hh W.ol W.oh W.il W.ih k).hi)
    omega

end Go.Proofs.Ytoihnilgmdcndaa

namespace Go.Proofs.Ytoihnilgmdcndaa
set_option linter.unusedVariables false
set_option linter.unusedSimpArgs false
open Go.RowKit

theorem infoSpan : (Try.prog.info? 37).map (fun i => (i.zero, i.size, i.bytes)) = some (some (.agg #[.int .i64 0, .int .i64 0]), 2, 16) := by kernel_rfl

def innerL (off hei : Int) (pan top bot : List Int) (opn : Bool) (cl ch : Int) (n : Nat) : List Sp := (List.range n).map (innerAt off hei pan top bot opn cl ch)

/-- A list of spans is handed back, and no error. -/
def SpansPost (l : List Sp) (w : World) (e : Ending) (w' : World) : Prop := ∃ a cap, e = .returned (.tuple #[.slice a l.length cap, .int .i64 0]) ∧ Gr w w' ∧ SRow w' a l

theorem zeros3 : ∀ x ∈ ([0, 0, 0] : List Int), x = 0 := by simp

theorem zeros2 : ∀ x ∈ ([0, 0] : List Int), x = 0 := by simp

theorem first_three (ad : Option Addr) (cap : Nat) (w : World) (hr : IRow w ad [0, 0, 0]) :
    Calls Try.prog 65 #[.slice ad 3 cap] w fun e w' => e = .returned (.int .i64 0) ∧ Gr w w' :=
  (first_ok [0, 0, 0] zeros3 ad cap w hr).mono fun _ _ ⟨he, hw⟩ => ⟨he, hw ▸ Below.refl _ _⟩

theorem first_two (ad : Option Addr) (cap : Nat) (w : World) (hr : IRow w ad [0, 0]) :
    Calls Try.prog 65 #[.slice ad 2 cap] w fun e w' => e = .returned (.int .i64 0) ∧ Gr w w' :=
  (first_ok [0, 0] zeros2 ad cap w hr).mono fun _ _ ⟨he, hw⟩ => ⟨he, hw ▸ Below.refl _ _⟩

theorem zeros_row (w : World) (t : TypeId) : IRow (w.alloc (.cells #[.int .i64 0, .int .i64 0, .int .i64 0] t)) (some ⟨w.heap.size, 0, none⟩) [0, 0, 0] := IRow.new w t [0, 0, 0] (by simp)

theorem zeros_row2 (w : World) (t : TypeId) : IRow (w.alloc (.cells #[.int .i64 0, .int .i64 0] t)) (some ⟨w.heap.size, 0, none⟩) [0, 0] := IRow.new w t [0, 0] (by simp)

set_option maxRecDepth 100000 in
set_option maxHeartbeats 4000000 in
theorem inner_ok (tab hei slo off : Int) (pan top bot : List Int) (pa ta ba : Option Addr) (pc tc bc : Nat) (opn : Bool) (cl ch : Int) (G : GoodB tab hei slo pan top bot opn) (hoff : inB 0 5 [off] = true) (hc : okSpan 1 10000 cl ch = true) (w : World) (hp : IRow w pa pan) (ht : IRow w ta top) (hb : IRow w ba bot) :
    Calls Try.prog 23 #[.agg #[.int .i64 tab, .slice pa pan.length pc, .int .i64 hei, .slice ta top.length tc, .slice ba bot.length bc, .int .i64 slo, .bool opn], .agg #[.int .i64 cl, .int .i64 ch], .int .i64 off] w (SpansPost (innerL off hei pan top bot opn cl ch 9) w) := by
  have gg := (Gr.al w (.cells #[.int .i64 tab, .slice pa pan.length pc, .int .i64 hei, .slice ta top.length tc, .slice ba bot.length bc, .int .i64 slo, .bool opn] 24)).tr (Gr.al _ (.cells #[.int .i64 cl, .int .i64 ch] 37))
  have hB := (Box.new w [.int .i64 tab, .slice pa pan.length pc, .int .i64 hei, .slice ta top.length tc, .slice ba bot.length bc, .int .i64 slo, .bool opn] 24 w.heap.size rfl).keep (Gr.al _ (.cells #[.int .i64 cl, .int .i64 ch] 37))
  have hC := Box.new (w.alloc (.cells #[.int .i64 tab, .slice pa pan.length pc, .int .i64 hei, .slice ta top.length tc, .slice ba bot.length bc, .int .i64 slo, .bool opn] 24)) [.int .i64 cl, .int .i64 ch] 37 (w.heap.size + 1) (by simp)
  obtain ⟨o0, o1⟩ := in_one hoff
  have HO := Lib.hid hoff
  have HG := Lib.hid G
  have HC := Lib.hid hc
  have hcb : 0 ≤ cl ∧ cl ≤ 10000 ∧ 0 ≤ ch ∧ ch ≤ 10000 := by
    simp only [okSpan, inB, in1, List.all_cons, List.all_nil, Bool.and_true, Bool.and_eq_true, decide_eq_true_eq] at hc
    omega
  have hcs : ([⟨cl, ch⟩] : List Sp).all (okSp 1 10000) = true := by simpa [okSp] using hc
  have HCS := Lib.hid hcs
  obtain ⟨cb0, cb1, cb2, cb3⟩ := hcb
  clear hoff G hc hcs
  go_enter Try.func23, Try.ntmps23
  go_wp2
  refine wp_abs (fun W => Gr w W ∧ Box W w.heap.size [.int .i64 tab, .slice pa pan.length pc, .int .i64 hei, .slice ta top.length tc, .slice ba bot.length bc, .int .i64 slo, .bool opn] ∧ Box W (w.heap.size + 1) [.int .i64 cl, .int .i64 ch]) ⟨gg, hB, hC⟩ ?_
  clear gg hB hC
  rintro W ⟨gg, hB, hC⟩
  have gX := Gr.dr W
  have gA := (Gr.al W (.cells #[.int .i64 cl, .int .i64 ch] 37)).tr (Gr.dr _)
  have rA := (SRow.new1 W 37 cl ch W.heap.size rfl).grow (Gr.dr _)
  obtain ⟨f0, f1, f2, f3, f4, f5, f6⟩ := (hB.keep gA).c7
  obtain ⟨p0, p1⟩ := (hC.keep gA).c2
  obtain ⟨e0, e1, e2, e3, e4, e5, e6⟩ := (hB.keep gX).c7
  obtain ⟨q0, q1⟩ := (hC.keep gX).c2
  go_region_held3 (fun w' => w'.cell? ⟨w.heap.size + 1, 0, none⟩ = some (.int .i64 cl) ∧ w'.cell? ⟨w.heap.size + 1, 1, none⟩ = some (.int .i64 ch) ∧ w'.cell? ⟨w.heap.size, 0, none⟩ = some (.int .i64 tab) ∧ w'.cell? ⟨w.heap.size, 1, none⟩ = some (.slice pa pan.length pc) ∧ w'.cell? ⟨w.heap.size, 2, none⟩ = some (.int .i64 hei) ∧ w'.cell? ⟨w.heap.size, 3, none⟩ = some (.slice ta top.length tc) ∧ w'.cell? ⟨w.heap.size, 4, none⟩ = some (.slice ba bot.length bc) ∧ w'.cell? ⟨w.heap.size, 5, none⟩ = some (.int .i64 slo) ∧ w'.cell? ⟨w.heap.size, 6, none⟩ = some (.bool opn)) (first | exact ⟨q0, q1, e0, e1, e2, e3, e4, e5, e6⟩ | exact ⟨p0, p1, f0, f1, f2, f3, f4, f5, f6⟩ | go_keep) (first
    | (go_at_call 17; (refine (checkB_ok _ _ _ _ _ _ _ _ _ _ _ _ _ HG.out _ ?_ ?_ ?_).mono ?_); (first | exact hp.grow (gg.tr gX) | exact hp.grow (gg.tr gA)); (first | exact ht.grow (gg.tr gX) | exact ht.grow (gg.tr gA)); (first | exact hb.grow (gg.tr gX) | exact hb.grow (gg.tr gA)); rintro e w3 ⟨rfl, hx⟩; have g3 : Gr _ w3 := (by first | exact gX.tr hx | exact gA.tr hx); (obtain ⟨e0, e1, e2, e3, e4, e5, e6⟩ := (hB.keep g3).c7); obtain ⟨q0, q1⟩ := (hC.keep g3).c2)
    | (go_at_call 66; (refine (measured_ok [⟨cl, ch⟩] HCS.out _ _ _ ?_).mono ?_); (first | exact SRow.new1 _ _ _ _ _ rfl | exact rA.grow hx); rintro e w4 ⟨rfl, hy⟩; have g4 : Gr _ w4 := (by first | exact g3.tr hy | exact g3.tr ((Gr.al _ _).tr hy)); (obtain ⟨e0, e1, e2, e3, e4, e5, e6⟩ := (hB.keep g4).c7); obtain ⟨q0, q1⟩ := (hC.keep g4).c2)
    | (go_at_call 67; (refine (known_ok off HO.out _).mono ?_); rintro e w5 ⟨rfl, hz⟩; have g5 := g4.tr hz; (obtain ⟨e0, e1, e2, e3, e4, e5, e6⟩ := (hB.keep g5).c7); obtain ⟨q0, q1⟩ := (hC.keep g5).c2)
    | (go_at_call 65; (refine (first_three _ _ _ (zeros_row _ _)).mono ?_); rintro e w6 ⟨rfl, hv⟩; have g6 := g5.tr ((Gr.al _ _).tr hv); (obtain ⟨e0, e1, e2, e3, e4, e5, e6⟩ := (hB.keep g6).c7); obtain ⟨q0, q1⟩ := (hC.keep g6).c2))
  all_goals
    have gW := gg.tr g6
    have bB := hB.keep g6
    have bC := hC.keep g6
    clear e0 e1 e2 e3 e4 e5 e6 q0 q1 p0 p1 f0 f1 f2 f3 f4 f5 f6 gA rA hx hy hz hv g3 g4 g5 g6 gX gg hB hC
    obtain ⟨e0, e1, e2, e3, e4, e5, e6⟩ := bB.c7
    obtain ⟨i0, hi, hz0, hz1, hz2⟩ := info_parts infoSpan
    go_wp2_with fail
    refine (layS_any _ _ _ _ _ _ _ _ _ _ _ _ _ _ _).mono ?_
    rintro e w7 ⟨rfl, hx⟩
    have gV := Gr.al w7 (.cells #[.int .i64 tab, .slice pa pan.length pc, .int .i64 hei, .slice ta top.length tc, .slice ba bot.length bc, .int .i64 slo, .bool opn, .int .i64 off, .slice ta top.length tc, .slice ba bot.length bc] 124)
    have bX := Box.new w7 [.int .i64 tab, .slice pa pan.length pc, .int .i64 hei, .slice ta top.length tc, .slice ba bot.length bc, .int .i64 slo, .bool opn, .int .i64 off, .slice ta top.length tc, .slice ba bot.length bc] 124 w7.heap.size rfl
    have g7 := gW.tr (hx.tr gV)
    have bC7 := bC.keep (hx.tr gV)
    clear e0 e1 e2 e3 e4 e5 e6 bB bC gW
    obtain ⟨V, hV⟩ : ∃ V, V = w7.alloc (.cells #[.int .i64 tab, .slice pa pan.length pc, .int .i64 hei, .slice ta top.length tc, .slice ba bot.length bc, .int .i64 slo, .bool opn, .int .i64 off, .slice ta top.length tc, .slice ba bot.length bc] 124) := ⟨_, rfl⟩
    have HV := Lib.hid hV
    rw [← hV] at g7 bC7 bX
    clear hV gV
    obtain ⟨w8, hmk, hown, hgrow⟩ := run_make_own (P := Try.prog) V V.heap.size 38 37 i0 (.agg #[.int .i64 0, .int .i64 0]) 2 Try.underlying38 hi hz0 hz1 .i64 .i64 9 (by rw [hz2]; omega) (by unfold maxLen; omega) (Nat.le_refl _)
    have hgV : Gr V w8 := (Below.refl _ V).grown hgrow (Nat.le_refl _) (fun b hb' => by cases hb')
    have e3 : V.heap.size = w7.heap.size + 1 := by rw [HV.out]; simp
    rw [HV.out] at hmk
    rw [show ((9 : Nat) : Int) = 9 from rfl] at hmk
    go_wp2
    clear hgrow hmk
    go_loopw [28, 10] (fun i v wr => ∃ k : Nat, k ≤ 9 ∧ i = .int .i64 k ∧ Gr V wr ∧ wr.ownsRow V.heap.size 37 2 v k ((innerL off hei pan top bot opn cl ch k).flatMap encS)) (fun i v wr => 9 - (intOf i).toNat)
    case atStart => exact ⟨0, Nat.zero_le _, rfl, hgV, by rw [← e3]; exact hown⟩
    case round =>
      clear hown hgV
      obtain ⟨k, hk, rfl, gV, hown⟩ := hrel
      by_cases hlt : k < 9
      · obtain ⟨y0, y1, y2, y3, y4, y5, y6, y7, y8, y9⟩ := (bX.keep gV).c10
        obtain ⟨q0, q1⟩ := (bC7.keep gV).c2
        have g9 := g7.tr gV
        have hp9 := hp.grow g9
        have ht9 := ht.grow g9
        have hb9 := hb.grow g9
        have hk1 : k + 1 ≤ maxLen := by unfold maxLen; omega
        have hk2 : (k + 1) * 16 ≤ 140737488355328 := by omega
        go_wp2_with (first | (go_at_call 69; refine (inside_all _ _ _ _ _ _ _ _ _ _ _ _ _ _ cl ch HG.out (by omega) (by omega) cb0 cb1 cb2 cb3 k hlt _ hp9 ht9 hb9).mono ?_; rintro e w5 ⟨rfl, hy⟩) | (at_builtin; refine wpList_append_own _ rfl _ _ 38 rfl V.heap.size 37 i0 (.agg #[.int .i64 0, .int .i64 0]) 2 16 Try.underlying38 hi hz0 hz1 hz2 rfl (by decide) _ _ _ rfl (owns_keep hown (hy.tr (Gr.al _ _))) ⟨w5.heap.size, 0, none⟩ 1 1 ([(innerAt off hei pan top bot opn cl ch k).lo, (innerAt off hei pan top bot opn cl ch k).hi].map (fun n => Value.int .i64 n)) rfl rfl (cell_news _ _ _) (ints_one _) hk1 hk2 (gV.tr (hy.tr (Gr.al _ _))).size ?_; intro v' w6 hown' hgrow' _))
        go_roundw
        case rel =>
          refine ⟨k + 1, by omega, by go_num, (gV.tr (hy.tr (Gr.al _ _))).grown' (owns_keep hown (hy.tr (Gr.al _ _))) (Nat.le_refl _) hgrow', ?_⟩
          unfold innerL
          rw [List.range_succ, List.map_append, List.map_singleton, flat_snoc]
          exact hown'
        case measure => simp [intOf]; omega
      · obtain rfl : k = 9 := by omega
        have hlen : (innerL off hei pan top bot opn cl ch 9).length = 9 := by simp [innerL]
        obtain ⟨a, cap, hv, hr⟩ := owns_row (enc := encS) (l := innerL off hei pan top bot opn cl ch 9) (fun _ => rfl) (by rw [hlen]; omega) (by rw [hlen]; exact hown)
        subst hv
        have Hr := Lib.hid hr
        have Hlen := Lib.hid hlen
        clear hr hlen
        go_wp2
        go_ret2
        exact ⟨a, cap, rfl, g7.tr gV, Hr.out⟩

end Go.Proofs.Ytoihnilgmdcndaa

namespace Go.Proofs.Ytoihnilgmdcndaa
set_option linter.unusedVariables false
set_option linter.unusedSimpArgs false
open Go.RowKit

theorem GoodWish.sp {ll lh wl wh hl hh ol oh il ih : Int} (H : GoodWish ll lh wl wh hl hh ol oh il ih) : ([⟨ll, lh⟩, ⟨wl, wh⟩, ⟨hl, hh⟩] : List Sp).all (okSp 0 3000) = true ∧ ([⟨ol, oh⟩, ⟨il, ih⟩] : List Sp).all (okSp (-3000) 3000) = true := by
 obtain ⟨a0, a1, a2⟩ := H.len
 obtain ⟨b0, b1, b2⟩ := H.wid
 obtain ⟨c0, c1, c2⟩ := H.hei
 obtain ⟨d0, d1, d2⟩ := H.out
 obtain ⟨e0, e1, e2⟩ := H.inn
 constructor <;> simp [okSp, okSpan, inB, in1] <;> omega

theorem SRow.new3 (w : World) (t : TypeId) (a b c d e f : Int) (n : Nat) (hn : n = w.heap.size) : SRow (w.alloc (.cells #[.int .i64 a, .int .i64 b, .int .i64 c, .int .i64 d, .int .i64 e, .int .i64 f] t)) (some ⟨n, 0, none⟩) [⟨a, b⟩, ⟨c, d⟩, ⟨e, f⟩] := by
 subst hn
 have h := Box.new w [.int .i64 a, .int .i64 b, .int .i64 c, .int .i64 d, .int .i64 e, .int .i64 f] t w.heap.size rfl
 refine ⟨by simp, fun j x hx => ⟨w.heap.size, 0, rfl, h.1, fun i v hv => ?_⟩⟩
 match j, hx with
 | 0, hx => (simp at hx; subst hx; match i, hv with
  | 0, hv => exact h.2 0 v hv
  | 1, hv => exact h.2 1 v hv
  | i + 2, hv => simp [encS] at hv)
 | 1, hx => (simp at hx; subst hx; match i, hv with
  | 0, hv => exact h.2 2 v hv
  | 1, hv => exact h.2 3 v hv
  | i + 2, hv => simp [encS] at hv)
 | 2, hx => (simp at hx; subst hx; match i, hv with
  | 0, hv => exact h.2 4 v hv
  | 1, hv => exact h.2 5 v hv
  | i + 2, hv => simp [encS] at hv)
 | j + 3, hx => simp at hx

theorem valid3 (lo hi a b c d e f : Int) (h : ([⟨a, b⟩, ⟨c, d⟩, ⟨e, f⟩] : List Sp).all (okSp lo hi) = true) (ad : Option Addr) (cap : Nat) (w : World) (hr : SRow w ad [⟨a, b⟩, ⟨c, d⟩, ⟨e, f⟩]) :
  Calls Try.prog 95 #[.int .i64 lo, .int .i64 hi, .slice ad 3 cap] w fun e w' => e = .returned (.bool true) ∧ Gr w w' := valids_any lo hi [⟨a, b⟩, ⟨c, d⟩, ⟨e, f⟩] true h ad cap w hr

theorem valid2 (lo hi a b c d : Int) (h : ([⟨a, b⟩, ⟨c, d⟩] : List Sp).all (okSp lo hi) = true) (ad : Option Addr) (cap : Nat) (w : World) (hr : SRow w ad [⟨a, b⟩, ⟨c, d⟩]) :
  Calls Try.prog 95 #[.int .i64 lo, .int .i64 hi, .slice ad 2 cap] w fun e w' => e = .returned (.bool true) ∧ Gr w w' := valids_any lo hi [⟨a, b⟩, ⟨c, d⟩] true h ad cap w hr

set_option maxRecDepth 100000 in
set_option maxHeartbeats 1000000 in
theorem wish_ok (ll lh wl wh hl hh ol oh il ih : Int) (wo : Bool) (H : GoodWish ll lh wl wh hl hh ol oh il ih) (w : World) :
  Calls Try.prog 73 #[.agg #[.int .i64 ll, .int .i64 lh, .int .i64 wl, .int .i64 wh, .int .i64 hl, .int .i64 hh, .int .i64 ol, .int .i64 oh, .int .i64 il, .int .i64 ih, .bool wo]] w fun e w' => e = .returned (.int .i64 0) ∧ Gr w w' := by
 have gg := Gr.al w (.cells #[.int .i64 ll, .int .i64 lh, .int .i64 wl, .int .i64 wh, .int .i64 hl, .int .i64 hh, .int .i64 ol, .int .i64 oh, .int .i64 il, .int .i64 ih, .bool wo] 48)
 have hb := Box.new w [.int .i64 ll, .int .i64 lh, .int .i64 wl, .int .i64 wh, .int .i64 hl, .int .i64 hh, .int .i64 ol, .int .i64 oh, .int .i64 il, .int .i64 ih, .bool wo] 48 w.heap.size rfl
 obtain ⟨s3, s2⟩ := H.sp
 have S3 := Lib.hid s3
 have S2 := Lib.hid s2
 clear H s3 s2
 have q0 := hb.2 0 _ rfl
 have q1 := hb.2 1 _ rfl
 have q2 := hb.2 2 _ rfl
 have q3 := hb.2 3 _ rfl
 have q4 := hb.2 4 _ rfl
 have q5 := hb.2 5 _ rfl
 go_enter Try.func73, Try.ntmps73
 go_wp2_with fail
 refine (valid3 0 3000 ll lh wl wh hl hh S3.out _ _ _ (SRow.new3 _ _ _ _ _ _ _ _ _ (by simp))).mono ?_
 rintro e w1 ⟨rfl, hx⟩
 have g1 := (Gr.al _ _).tr hx
 clear q0 q1 q2 q3 q4 q5
 have hb1 := hb.keep g1
 have q6 := hb1.2 6 _ rfl
 have q7 := hb1.2 7 _ rfl
 have q8 := hb1.2 8 _ rfl
 have q9 := hb1.2 9 _ rfl
 go_wp2_with fail
 refine (valid2 (-3000) 3000 ol oh il ih S2.out _ _ _ (SRow.new2 _ _ _ _ _ _ _ rfl)).mono ?_
 rintro e w2 ⟨rfl, hy⟩
 clear q6 q7 q8 q9
 go_wp2
 go_ret
 exact ⟨rfl, (gg.tr g1).tr ((Gr.al _ _).tr hy)⟩

/-- A check that does not hold, with its caliper. -/
def encB (x : Int × Int) : List Value := [.int .i64 x.1, .int .i64 x.2]

abbrev BRow := RowOf 2 encB

theorem infoBad : (Try.prog.info? 82).map (fun i => (i.zero, i.size, i.bytes)) = some (some (.agg #[.int .i64 0, .int .i64 0]), 2, 16) := by kernel_rfl

/-- The checks below n that do not hold, by the calipers with which each holds. -/
def badL (cl ch : Int) (hold : Nat → Sp) : Nat → List (Int × Int)
 | 0 => []
 | n + 1 => badL cl ch hold n ++ (if outB cl ch (hold n).lo (hold n).hi = true then [((n : Int), outN cl ch (hold n).lo (hold n).hi)] else [])

theorem badL_len (cl ch : Int) (hold : Nat → Sp) : ∀ n, (badL cl ch hold n).length ≤ n
 | 0 => by simp [badL]
 | n + 1 => by
  have := badL_len cl ch hold n
  unfold badL
  split <;> simp <;> omega

/-- A list of bad checks is handed back, and no error. -/
def BadPost (l : List (Int × Int)) (w : World) (e : Ending) (w' : World) : Prop := ∃ a cap, e = .returned (.tuple #[.slice a l.length cap, .int .i64 0]) ∧ Gr w w' ∧ BRow w' a l

set_option maxRecDepth 100000 in
set_option maxHeartbeats 4000000 in
theorem close_ok (tab hei slo : Int) (pan top bot : List Int) (pa ta ba : Option Addr) (pc tc bc : Nat) (opn : Bool) (ll lh wl wh hl hh ol oh il ih : Int) (wo : Bool) (cl ch : Int) (G : GoodB tab hei slo pan top bot opn) (H : GoodWish ll lh wl wh hl hh ol oh il ih) (hc : okSpan 1 10000 cl ch = true) (w : World) (hp : IRow w pa pan) (ht : IRow w ta top) (hb : IRow w ba bot) :
  Calls Try.prog 42 #[.agg #[.int .i64 tab, .slice pa pan.length pc, .int .i64 hei, .slice ta top.length tc, .slice ba bot.length bc, .int .i64 slo, .bool opn], .agg #[.int .i64 ll, .int .i64 lh, .int .i64 wl, .int .i64 wh, .int .i64 hl, .int .i64 hh, .int .i64 ol, .int .i64 oh, .int .i64 il, .int .i64 ih, .bool wo], .agg #[.int .i64 cl, .int .i64 ch]] w (BadPost (badL cl ch (holdL 0 hei slo pan top bot opn ll lh wl wh hl hh ol oh il ih wo) 10) w) := by
 have gg := ((Gr.al w (.cells #[.int .i64 tab, .slice pa pan.length pc, .int .i64 hei, .slice ta top.length tc, .slice ba bot.length bc, .int .i64 slo, .bool opn] 24)).tr (Gr.al _ (.cells #[.int .i64 ll, .int .i64 lh, .int .i64 wl, .int .i64 wh, .int .i64 hl, .int .i64 hh, .int .i64 ol, .int .i64 oh, .int .i64 il, .int .i64 ih, .bool wo] 48))).tr (Gr.al _ (.cells #[.int .i64 cl, .int .i64 ch] 37))
 have hB := ((Box.new w [.int .i64 tab, .slice pa pan.length pc, .int .i64 hei, .slice ta top.length tc, .slice ba bot.length bc, .int .i64 slo, .bool opn] 24 w.heap.size rfl).keep (Gr.al _ (.cells #[.int .i64 ll, .int .i64 lh, .int .i64 wl, .int .i64 wh, .int .i64 hl, .int .i64 hh, .int .i64 ol, .int .i64 oh, .int .i64 il, .int .i64 ih, .bool wo] 48))).keep (Gr.al _ (.cells #[.int .i64 cl, .int .i64 ch] 37))
 have hW := (Box.new (w.alloc (.cells #[.int .i64 tab, .slice pa pan.length pc, .int .i64 hei, .slice ta top.length tc, .slice ba bot.length bc, .int .i64 slo, .bool opn] 24)) [.int .i64 ll, .int .i64 lh, .int .i64 wl, .int .i64 wh, .int .i64 hl, .int .i64 hh, .int .i64 ol, .int .i64 oh, .int .i64 il, .int .i64 ih, .bool wo] 48 (w.heap.size + 1) (by simp)).keep (Gr.al _ (.cells #[.int .i64 cl, .int .i64 ch] 37))
 have hC := Box.new ((w.alloc (.cells #[.int .i64 tab, .slice pa pan.length pc, .int .i64 hei, .slice ta top.length tc, .slice ba bot.length bc, .int .i64 slo, .bool opn] 24)).alloc (.cells #[.int .i64 ll, .int .i64 lh, .int .i64 wl, .int .i64 wh, .int .i64 hl, .int .i64 hh, .int .i64 ol, .int .i64 oh, .int .i64 il, .int .i64 ih, .bool wo] 48)) [.int .i64 cl, .int .i64 ch] 37 (w.heap.size + 1 + 1) (by simp)
 have HG := Lib.hid G
 have HH := Lib.hid H
 have hcs : ([⟨cl, ch⟩] : List Sp).all (okSp 1 10000) = true := by simpa [okSp] using hc
 have HCS := Lib.hid hcs
 have HS := Lib.hid G.sh
 have hcb : 0 ≤ cl ∧ cl ≤ 10000 ∧ 0 ≤ ch ∧ ch ≤ 10000 := by
  simp only [okSpan, inB, in1, List.all_cons, List.all_nil, Bool.and_true, Bool.and_eq_true, decide_eq_true_eq] at hc
  omega
 obtain ⟨cb0, cb1, cb2, cb3⟩ := hcb
 clear G H hc hcs
 go_enter Try.func42, Try.ntmps42
 go_upto_region 1 with fail
 refine wp_abs (fun W => Gr w W ∧ Box W w.heap.size [.int .i64 tab, .slice pa pan.length pc, .int .i64 hei, .slice ta top.length tc, .slice ba bot.length bc, .int .i64 slo, .bool opn] ∧ Box W (w.heap.size + 1) [.int .i64 ll, .int .i64 lh, .int .i64 wl, .int .i64 wh, .int .i64 hl, .int .i64 hh, .int .i64 ol, .int .i64 oh, .int .i64 il, .int .i64 ih, .bool wo] ∧ Box W (w.heap.size + 1 + 1) [.int .i64 cl, .int .i64 ch]) ⟨gg, hB, hW, hC⟩ ?_
 clear gg hB hW hC
 rintro W ⟨gg, hB, hW, hC⟩
 refine wp_region_facts 9 [(1, 0), (3, 2), (5, 4), (6, 5), (7, 1), (7, 3), (7, 6), (8, 7)] (fun x => ⟨#[.agg #[.int .i64 tab, .slice pa pan.length pc, .int .i64 hei, .slice ta top.length tc, .slice ba bot.length bc, .int .i64 slo, .bool opn], .agg #[.int .i64 ll, .int .i64 lh, .int .i64 wl, .int .i64 wh, .int .i64 hl, .int .i64 hh, .int .i64 ol, .int .i64 oh, .int .i64 il, .int .i64 ih, .bool wo], .agg #[.int .i64 cl, .int .i64 ch], .pointer (some ⟨w.heap.size, 0, none⟩), .pointer (some ⟨(w.heap.size + 1), 0, none⟩), .pointer (some ⟨(w.heap.size + 1 + 1), 0, none⟩), .slice none 0 0, .int .i64 0, undef, undef, undef, undef, undef, undef, x 0, x 1, x 2, x 3, x 4, x 5, x 6, x 7, x 8, undef, undef, undef, undef, undef, undef, undef, undef, undef, undef, undef, undef, undef, undef, undef, undef, undef, undef, undef, undef, undef, undef, undef, undef, undef, undef, undef], []⟩) (fun _ => undef) [fun _ x => x = .agg #[.int .i64 tab, .slice pa pan.length pc, .int .i64 hei, .slice ta top.length tc, .slice ba bot.length bc, .int .i64 slo, .bool opn], fun _ x => x = .int .i64 0, fun _ x => x = .agg #[.int .i64 ll, .int .i64 lh, .int .i64 wl, .int .i64 wh, .int .i64 hl, .int .i64 hh, .int .i64 ol, .int .i64 oh, .int .i64 il, .int .i64 ih, .bool wo], fun _ x => x = .int .i64 0, fun _ x => x = .agg #[.int .i64 cl, .int .i64 ch], fun v x => ∃ a, x = .slice a 1 1 ∧ SRow v a [⟨cl, ch⟩], fun _ x => x = .int .i64 0, fun v x => ∃ a, x = .slice a 3 3 ∧ IRow v a [0, 0, 0], fun _ x => x = .int .i64 0] (by rfl) (by kernel_rfl) (by kernel_rfl) (by kernel_rfl) (stays_cons (Stays.eq _) (stays_cons (Stays.eq _) (stays_cons (Stays.eq _) (stays_cons (Stays.eq _) (stays_cons (Stays.eq _) (stays_cons ((show Stays (fun v x => ∃ a, x = .slice a 1 1 ∧ SRow v a [⟨cl, ch⟩]) from fun v v' x g ⟨a, e, r⟩ => ⟨a, e, r.grow g⟩)) (stays_cons (Stays.eq _) (stays_cons ((show Stays (fun v x => ∃ a, x = .slice a 3 3 ∧ IRow v a [0, 0, 0]) from fun v v' x g ⟨a, e, r⟩ => ⟨a, e, r.grow g⟩)) (stays_cons (Stays.eq _) stays_nil))))))))) ?step1 ?fin1
 case step1 =>
  rintro i hi x v gv hd K hK
  have hi8 : i = 0 ∨ i = 1 ∨ i = 2 ∨ i = 3 ∨ i = 4 ∨ i = 5 ∨ i = 6 ∨ i = 7 ∨ i = 8 := by omega
  rcases hi8 with rfl | rfl | rfl | rfl | rfl | rfl | rfl | rfl | rfl
  ·dsimp only [upd, Nat.reduceBEq, cond_true, cond_false]
   refine wpOp_step rfl (fun K' hK' => ?_)
   rw [if_pos (by rfl)]
   refine wp_load_mid 24 _ rfl w.heap.size 0 (by rfl) [.int .i64 tab, .slice pa pan.length pc, .int .i64 hei, .slice ta top.length tc, .slice ba bot.length bc, .int .i64 slo, .bool opn] _ (fun j u hu => by rw [Nat.zero_add]; exact (hB.keep gv).2 j u hu) Try.underlying24 rfl (by kernel_rfl) ?_
   exact hK' _ _ (hK _ _ (Below.refl _ _) (at_of rfl (rfl)))
  ·obtain ⟨x, rfl⟩ := upd_of (show x 0 = .agg #[.int .i64 tab, .slice pa pan.length pc, .int .i64 hei, .slice ta top.length tc, .slice ba bot.length bc, .int .i64 slo, .bool opn] from hd 0 _ (by simp) rfl)
   dsimp only [upd, Nat.reduceBEq, cond_true, cond_false]
   refine wpOp_step rfl (fun K' hK' => ?_)
   go_simp
   refine (checkB_ok _ _ _ _ _ _ _ _ _ _ _ _ _ HG.out v (hp.grow (gg.tr gv)) (ht.grow (gg.tr gv)) (hb.grow (gg.tr gv))).mono ?_
   rintro e v' ⟨rfl, hg⟩
   exact hK' _ _ (hK _ _ hg (at_of rfl (rfl)))
  ·dsimp only [upd, Nat.reduceBEq, cond_true, cond_false]
   refine wpOp_step rfl (fun K' hK' => ?_)
   rw [if_pos (by rfl)]
   refine wp_load_mid 48 _ rfl (w.heap.size + 1) 0 (by rfl) [.int .i64 ll, .int .i64 lh, .int .i64 wl, .int .i64 wh, .int .i64 hl, .int .i64 hh, .int .i64 ol, .int .i64 oh, .int .i64 il, .int .i64 ih, .bool wo] _ (fun j u hu => by rw [Nat.zero_add]; exact (hW.keep gv).2 j u hu) Try.underlying48 rfl (by kernel_rfl) ?_
   exact hK' _ _ (hK _ _ (Below.refl _ _) (at_of rfl (rfl)))
  ·obtain ⟨x, rfl⟩ := upd_of (show x 2 = .agg #[.int .i64 ll, .int .i64 lh, .int .i64 wl, .int .i64 wh, .int .i64 hl, .int .i64 hh, .int .i64 ol, .int .i64 oh, .int .i64 il, .int .i64 ih, .bool wo] from hd 2 _ (by simp) rfl)
   dsimp only [upd, Nat.reduceBEq, cond_true, cond_false]
   refine wpOp_step rfl (fun K' hK' => ?_)
   go_simp
   refine (wish_ok ll lh wl wh hl hh ol oh il ih wo HH.out v).mono ?_
   rintro e v' ⟨rfl, hg⟩
   exact hK' _ _ (hK _ _ hg (at_of rfl (rfl)))
  ·dsimp only [upd, Nat.reduceBEq, cond_true, cond_false]
   refine wpOp_step rfl (fun K' hK' => ?_)
   rw [if_pos (by rfl)]
   refine wp_load_mid 37 _ rfl (w.heap.size + 1 + 1) 0 (by rfl) [.int .i64 cl, .int .i64 ch] _ (fun j u hu => by rw [Nat.zero_add]; exact (hC.keep gv).2 j u hu) Try.underlying37 rfl (by kernel_rfl) ?_
   exact hK' _ _ (hK _ _ (Below.refl _ _) (at_of rfl (rfl)))
  ·obtain ⟨x, rfl⟩ := upd_of (show x 4 = .agg #[.int .i64 cl, .int .i64 ch] from hd 4 _ (by simp) rfl)
   dsimp only [upd, Nat.reduceBEq, cond_true, cond_false]
   refine wpOp_step rfl (fun K' hK' => ?_)
   go_simp
   have hg := Gr.al v (.cells (List.toArray [.int .i64 cl, .int .i64 ch]) 37)
   exact hK' _ _ (hK _ _ hg (at_of rfl (⟨_, rfl, SRow.new1 v 37 cl ch v.heap.size rfl⟩)))
  ·obtain ⟨a5, e5, r5⟩ := hd 5 _ (by simp) rfl
   obtain ⟨x, rfl⟩ := upd_of (show x 5 = .slice a5 1 1 from e5)
   dsimp only [upd, Nat.reduceBEq, cond_true, cond_false]
   refine wpOp_step rfl (fun K' hK' => ?_)
   go_simp
   refine (measured_ok [⟨cl, ch⟩] HCS.out a5 1 v r5).mono ?_
   rintro e v' ⟨rfl, hg⟩
   exact hK' _ _ (hK _ _ hg (at_of rfl (rfl)))
  ·obtain ⟨x, rfl⟩ := upd_of (show x 1 = .int .i64 0 from hd 1 _ (by simp) rfl)
   obtain ⟨x, rfl⟩ := upd_of (show x 3 = .int .i64 0 from hd 3 _ (by simp) rfl)
   obtain ⟨x, rfl⟩ := upd_of (show x 6 = .int .i64 0 from hd 6 _ (by simp) rfl)
   dsimp only [upd, Nat.reduceBEq, cond_true, cond_false]
   refine wpOp_step rfl (fun K' hK' => ?_)
   go_simp
   have hg := Gr.al v (.cells (List.toArray [.int .i64 0, .int .i64 0, .int .i64 0]) 28)
   exact hK' _ _ (hK _ _ hg (at_of rfl (⟨_, rfl, zeros_row v 28⟩)))
  ·obtain ⟨a7, e7, r7⟩ := hd 7 _ (by simp) rfl
   obtain ⟨x, rfl⟩ := upd_of (show x 7 = .slice a7 3 3 from e7)
   dsimp only [upd, Nat.reduceBEq, cond_true, cond_false]
   refine wpOp_step rfl (fun K' hK' => ?_)
   go_simp
   refine (first_three a7 3 v r7).mono ?_
   rintro e v' ⟨rfl, hg⟩
   exact hK' _ _ (hK _ _ hg (at_of rfl (rfl)))
 case fin1 =>
  rintro x v gv hd
  obtain ⟨x, rfl⟩ := upd_of (show x 8 = .int .i64 0 from hd 8 _ (by omega) rfl)
  clear hd
  show wpList Try.prog _ _ (List.drop 9 _) (⟨#[_, _, _, _, _, _, _, _, _, _, _, _, _, _, x 0, x 1, x 2, x 3, x 4, x 5, x 6, x 7, .int .i64 0, _, _, _, _, _, _, _, _, _, _, _, _, _, _, _, _, _, _, _, _, _, _, _, _, _, _, _], []⟩ : Act) v
  simp only [List.drop_succ_cons, List.drop_zero]
  have hB := hB.keep gv
  have hW := hW.keep gv
  have hC := hC.keep gv
  have gg := gg.tr gv
  clear gv
  obtain ⟨e0, e1, e2, e3, e4, e5, e6⟩ := hB.c7
  go_wp2_with (go_at_call 68; (refine (layS_any _ _ _ _ _ _ _ _ _ _ _ _ _ _ _).mono ?_); rintro e w8 ⟨rfl, hx⟩)
  have gV := (gg.tr hx).tr (Gr.al w8 (.cells #[.int .i64 tab, .slice pa pan.length pc, .int .i64 hei, .slice ta top.length tc, .slice ba bot.length bc, .int .i64 slo, .bool opn, .int .i64 0, .slice ta top.length tc, .slice ba bot.length bc] 124))
  have bX := Box.new w8 [.int .i64 tab, .slice pa pan.length pc, .int .i64 hei, .slice ta top.length tc, .slice ba bot.length bc, .int .i64 slo, .bool opn, .int .i64 0, .slice ta top.length tc, .slice ba bot.length bc] 124 w8.heap.size rfl
  have bW := hW.keep (hx.tr (Gr.al w8 (.cells #[.int .i64 tab, .slice pa pan.length pc, .int .i64 hei, .slice ta top.length tc, .slice ba bot.length bc, .int .i64 slo, .bool opn, .int .i64 0, .slice ta top.length tc, .slice ba bot.length bc] 124)))
  have bC := hC.keep (hx.tr (Gr.al w8 (.cells #[.int .i64 tab, .slice pa pan.length pc, .int .i64 hei, .slice ta top.length tc, .slice ba bot.length bc, .int .i64 slo, .bool opn, .int .i64 0, .slice ta top.length tc, .slice ba bot.length bc] 124)))
  clear e0 e1 e2 e3 e4 e5 e6 hB hW hC gg
  obtain ⟨D, hD⟩ : ∃ D, D = w8.heap.size := ⟨_, rfl⟩
  rw [← hD] at bX ⊢
  refine wp_abs (fun U => Gr w U ∧ Box U D [.int .i64 tab, .slice pa pan.length pc, .int .i64 hei, .slice ta top.length tc, .slice ba bot.length bc, .int .i64 slo, .bool opn, .int .i64 0, .slice ta top.length tc, .slice ba bot.length bc] ∧ Box U (w.heap.size + 1) [.int .i64 ll, .int .i64 lh, .int .i64 wl, .int .i64 wh, .int .i64 hl, .int .i64 hh, .int .i64 ol, .int .i64 oh, .int .i64 il, .int .i64 ih, .bool wo] ∧ Box U (w.heap.size + 1 + 1) [.int .i64 cl, .int .i64 ch]) ⟨gV, bX, bW, bC⟩ ?_
  clear gV bX bW bC hx hD
  rintro U ⟨gg, bX, hW, hC⟩
  obtain ⟨i0, hi, hz0, hz1, hz2⟩ := info_parts infoBad
  refine (show (∀ s : Nat → Value, Code.wp Try.prog _ _ ⟨#[s 0, s 1, s 2, .pointer (some ⟨w.heap.size, 0, none⟩), .pointer (some ⟨(w.heap.size + 1), 0, none⟩), .pointer (some ⟨(w.heap.size + 1 + 1), 0, none⟩), .slice none 0 0, .int .i64 0, s 8, .pointer (some ⟨D, 0, none⟩), .slice none 0 0, undef, undef, undef, s 14, s 15, s 16, s 17, s 18, s 19, s 20, s 21, s 22, s 23, s 24, s 25, s 26, s 27, .int .i64 0, undef, undef, undef, undef, undef, undef, undef, undef, undef, undef, undef, undef, undef, undef, undef, undef, undef, undef, undef, undef, undef], []⟩ _) → _ from fun h => h ((fun l : List Value => fun i => l.getD i undef) [_, _, _, undef, undef, undef, undef, undef, _, undef, undef, undef, undef, undef, _, _, _, _, _, _, _, _, _, _, _, _, _, _])) ?_
  intro s
  dsimp only
  go_loopw [28, 10] (fun i v wr => Hid (∃ (k : Nat) (vv : Value), k ≤ 10 ∧ i = .int .i64 k ∧ v = vv ∧ Gr U wr ∧ wr.ownsRow U.heap.size 82 2 vv (badL cl ch (holdL 0 hei slo pan top bot opn ll lh wl wh hl hh ol oh il ih wo) k).length ((badL cl ch (holdL 0 hei slo pan top bot opn ll lh wl wh hl hh ol oh il ih wo) k).flatMap encB))) (fun i v wr => 10 - (intOf i).toNat)
  case atStart => exact Lib.hid ⟨0, _, Nat.zero_le _, rfl, rfl, Below.refl _ _, World.ownsRow_nil _ _ _ _⟩
  case round =>
   obtain ⟨k, vv, hk, rfl, hvv, gV, hown⟩ := hrel.out
   obtain rfl := hvv.symm
   clear hrel
   by_cases hlt : k < 10
   ·have g9 := gg.tr gV
    have hlen := badL_len cl ch (holdL 0 hei slo pan top bot opn ll lh wl wh hl hh ol oh il ih wo) k
    have hk1 : (badL cl ch (holdL 0 hei slo pan top bot opn ll lh wl wh hl hh ol oh il ih wo) k).length + 1 ≤ maxLen := by unfold maxLen; omega
    have hk2 : ((badL cl ch (holdL 0 hei slo pan top bot opn ll lh wl wh hl hh ol oh il ih wo) k).length + 1) * 16 ≤ 140737488355328 := by omega
    obtain ⟨hb0, hb1, hb2, hb3⟩ := hold_bd (off := 0) (opn := opn) (wo := wo) (HS.out.at k) HH.out (by omega) (by omega) hlt
    go_upto_region 9 with fail
    have bX1 := bX.keep gV
    have bW1 := hW.keep gV
    have bC1 := hC.keep gV
    refine (show (∀ r : Nat → Value, Code.wp Try.prog _ _ ⟨#[s 0, s 1, s 2, .pointer (some ⟨w.heap.size, 0, none⟩), .pointer (some ⟨(w.heap.size + 1), 0, none⟩), .pointer (some ⟨(w.heap.size + 1 + 1), 0, none⟩), .slice none 0 0, .int .i64 0, s 8, .pointer (some ⟨D, 0, none⟩), vv, .int .i64 k, r 12, r 13, s 14, s 15, s 16, s 17, s 18, s 19, s 20, s 21, s 22, s 23, s 24, s 25, s 26, s 27, .int .i64 k, r 29, r 30, r 31, r 32, r 33, r 34, r 35, r 36, r 37, r 38, r 39, r 40, r 41, r 42, r 43, r 44, r 45, r 46, r 47, r 48, undef], []⟩ _) → _ from fun h => h ((fun l : List Value => fun i => l.getD i undef) [undef, undef, undef, undef, undef, undef, undef, undef, undef, undef, undef, undef, _, _, undef, undef, undef, undef, undef, undef, undef, undef, undef, undef, undef, undef, undef, undef, undef, _, _, _, _, _, _, _, _, _, _, _, _, _, _, _, _, _, _, _, _])) ?_
    intro r
    dsimp only
    refine wp_region_facts 11 [(3, 2), (5, 1), (5, 3), (5, 4), (6, 0), (6, 5), (7, 6), (8, 7), (9, 7), (10, 8)] (fun x => ⟨#[s 0, s 1, s 2, .pointer (some ⟨w.heap.size, 0, none⟩), .pointer (some ⟨(w.heap.size + 1), 0, none⟩), .pointer (some ⟨(w.heap.size + 1 + 1), 0, none⟩), .slice none 0 0, .int .i64 0, s 8, .pointer (some ⟨D, 0, none⟩), vv, .int .i64 k, x 10, r 13, s 14, s 15, s 16, s 17, s 18, s 19, s 20, s 21, s 22, s 23, s 24, s 25, s 26, s 27, .int .i64 k, r 29, r 30, x 7, x 0, x 1, x 2, x 3, x 4, x 5, x 6, x 8, x 9, r 41, r 42, r 43, r 44, r 45, r 46, r 47, r 48, undef], []⟩) (fun i => [r 32, r 33, r 34, r 35, r 36, r 37, r 38, r 31, r 39, r 40, r 12].getD i undef) [fun _ x => x = .agg #[.int .i64 cl, .int .i64 ch], fun _ x => x = .agg #[.int .i64 tab, .slice pa pan.length pc, .int .i64 hei, .slice ta top.length tc, .slice ba bot.length bc, .int .i64 slo, .bool opn, .int .i64 0, .slice ta top.length tc, .slice ba bot.length bc], fun _ x => x = .agg #[.int .i64 ll, .int .i64 lh, .int .i64 wl, .int .i64 wh, .int .i64 hl, .int .i64 hh, .int .i64 ol, .int .i64 oh, .int .i64 il, .int .i64 ih, .bool wo], fun _ x => x = .agg #[.int .i64 ll, .int .i64 lh, .int .i64 wl, .int .i64 wh, .int .i64 hl, .int .i64 hh, .int .i64 ol, .int .i64 oh, .int .i64 il, .int .i64 ih, .bool wo], fun _ x => x = .int .i64 k, fun _ x => x = .agg #[.int .i64 (holdL 0 hei slo pan top bot opn ll lh wl wh hl hh ol oh il ih wo k).lo, .int .i64 (holdL 0 hei slo pan top bot opn ll lh wl wh hl hh ol oh il ih wo k).hi], fun _ x => x = .tuple #[.int .i64 (outN cl ch (holdL 0 hei slo pan top bot opn ll lh wl wh hl hh ol oh il ih wo k).lo (holdL 0 hei slo pan top bot opn ll lh wl wh hl hh ol oh il ih wo k).hi), .bool (outB cl ch (holdL 0 hei slo pan top bot opn ll lh wl wh hl hh ol oh il ih wo k).lo (holdL 0 hei slo pan top bot opn ll lh wl wh hl hh ol oh il ih wo k).hi)], fun _ x => x = .tuple #[.int .i64 (outN cl ch (holdL 0 hei slo pan top bot opn ll lh wl wh hl hh ol oh il ih wo k).lo (holdL 0 hei slo pan top bot opn ll lh wl wh hl hh ol oh il ih wo k).hi), .bool (outB cl ch (holdL 0 hei slo pan top bot opn ll lh wl wh hl hh ol oh il ih wo k).lo (holdL 0 hei slo pan top bot opn ll lh wl wh hl hh ol oh il ih wo k).hi)], fun _ x => x = .int .i64 (outN cl ch (holdL 0 hei slo pan top bot opn ll lh wl wh hl hh ol oh il ih wo k).lo (holdL 0 hei slo pan top bot opn ll lh wl wh hl hh ol oh il ih wo k).hi), fun _ x => x = .bool (outB cl ch (holdL 0 hei slo pan top bot opn ll lh wl wh hl hh ol oh il ih wo k).lo (holdL 0 hei slo pan top bot opn ll lh wl wh hl hh ol oh il ih wo k).hi), fun _ x => x = .int .i64 (outN cl ch (holdL 0 hei slo pan top bot opn ll lh wl wh hl hh ol oh il ih wo k).lo (holdL 0 hei slo pan top bot opn ll lh wl wh hl hh ol oh il ih wo k).hi)] (by rfl) (by kernel_rfl) (by kernel_rfl) (by kernel_rfl) (stays_cons (Stays.eq _) (stays_cons (Stays.eq _) (stays_cons (Stays.eq _) (stays_cons (Stays.eq _) (stays_cons (Stays.eq _) (stays_cons (Stays.eq _) (stays_cons (Stays.eq _) (stays_cons (Stays.eq _) (stays_cons (Stays.eq _) (stays_cons (Stays.eq _) (stays_cons (Stays.eq _) stays_nil))))))))))) ?step9 ?fin9
    case step9 =>
     rintro i hi x v gv hd K hK
     have hi8 : i = 0 ∨ i = 1 ∨ i = 2 ∨ i = 3 ∨ i = 4 ∨ i = 5 ∨ i = 6 ∨ i = 7 ∨ i = 8 ∨ i = 9 ∨ i = 10 := by omega
     rcases hi8 with rfl | rfl | rfl | rfl | rfl | rfl | rfl | rfl | rfl | rfl | rfl
     ·dsimp only [upd, Nat.reduceBEq, cond_true, cond_false]
      refine wpOp_step rfl (fun K' hK' => ?_)
      rw [if_pos (by rfl)]
      refine wp_load_mid 37 _ rfl (w.heap.size + 1 + 1) 0 (by rfl) [.int .i64 cl, .int .i64 ch] _ (fun j u hu => by rw [Nat.zero_add]; exact (bC1.keep gv).2 j u hu) Try.underlying37 rfl (by kernel_rfl) ?_
      exact hK' _ _ (hK _ _ (Below.refl _ _) (at_of rfl (rfl)))
     ·dsimp only [upd, Nat.reduceBEq, cond_true, cond_false]
      refine wpOp_step rfl (fun K' hK' => ?_)
      rw [if_pos (by rfl)]
      refine wp_load_mid 124 _ rfl D 0 (by rfl) [.int .i64 tab, .slice pa pan.length pc, .int .i64 hei, .slice ta top.length tc, .slice ba bot.length bc, .int .i64 slo, .bool opn, .int .i64 0, .slice ta top.length tc, .slice ba bot.length bc] _ (fun j u hu => by rw [Nat.zero_add]; exact (bX1.keep gv).2 j u hu) Try.underlying124 rfl (by kernel_rfl) ?_
      exact hK' _ _ (hK _ _ (Below.refl _ _) (at_of rfl (rfl)))
     ·dsimp only [upd, Nat.reduceBEq, cond_true, cond_false]
      refine wpOp_step rfl (fun K' hK' => ?_)
      rw [if_pos (by rfl)]
      refine wp_load_mid 48 _ rfl (w.heap.size + 1) 0 (by rfl) [.int .i64 ll, .int .i64 lh, .int .i64 wl, .int .i64 wh, .int .i64 hl, .int .i64 hh, .int .i64 ol, .int .i64 oh, .int .i64 il, .int .i64 ih, .bool wo] _ (fun j u hu => by rw [Nat.zero_add]; exact (bW1.keep gv).2 j u hu) Try.underlying48 rfl (by kernel_rfl) ?_
      exact hK' _ _ (hK _ _ (Below.refl _ _) (at_of rfl (rfl)))
     ·obtain ⟨x, rfl⟩ := upd_of (show x 2 = .agg #[.int .i64 ll, .int .i64 lh, .int .i64 wl, .int .i64 wh, .int .i64 hl, .int .i64 hh, .int .i64 ol, .int .i64 oh, .int .i64 il, .int .i64 ih, .bool wo] from hd 2 _ (by simp) rfl)
      dsimp only [upd, Nat.reduceBEq, cond_true, cond_false]
      refine wpOp_step rfl (fun K' hK' => ?_)
      go_simp
      exact hK' _ _ (hK _ _ (Below.refl _ _) (at_of rfl (rfl)))
     ·dsimp only [upd, Nat.reduceBEq, cond_true, cond_false]
      refine wpOp_step rfl (fun K' hK' => ?_)
      go_simp
      exact hK' _ _ (hK _ _ (Below.refl _ _) (at_of rfl (rfl)))
     ·obtain ⟨x, rfl⟩ := upd_of (show x 1 = .agg #[.int .i64 tab, .slice pa pan.length pc, .int .i64 hei, .slice ta top.length tc, .slice ba bot.length bc, .int .i64 slo, .bool opn, .int .i64 0, .slice ta top.length tc, .slice ba bot.length bc] from hd 1 _ (by simp) rfl)
      obtain ⟨x, rfl⟩ := upd_of (show x 3 = .agg #[.int .i64 ll, .int .i64 lh, .int .i64 wl, .int .i64 wh, .int .i64 hl, .int .i64 hh, .int .i64 ol, .int .i64 oh, .int .i64 il, .int .i64 ih, .bool wo] from hd 3 _ (by simp) rfl)
      obtain ⟨x, rfl⟩ := upd_of (show x 4 = .int .i64 k from hd 4 _ (by simp) rfl)
      dsimp only [upd, Nat.reduceBEq, cond_true, cond_false]
      refine wpOp_step rfl (fun K' hK' => ?_)
      go_simp
      refine (holding_any _ _ _ _ _ _ _ _ _ _ _ _ _ _ _ ll lh wl wh hl hh ol oh il ih k hlt (HS.out.at k) HH.out (by omega) (by omega) v (hp.grow (g9.tr gv)) (ht.grow (g9.tr gv)) (hb.grow (g9.tr gv))).mono ?_
      rintro e v' ⟨rfl, hg⟩
      exact hK' _ _ (hK _ _ hg (at_of rfl (rfl)))
     ·obtain ⟨x, rfl⟩ := upd_of (show x 0 = .agg #[.int .i64 cl, .int .i64 ch] from hd 0 _ (by simp) rfl)
      obtain ⟨x, rfl⟩ := upd_of (show x 5 = .agg #[.int .i64 (holdL 0 hei slo pan top bot opn ll lh wl wh hl hh ol oh il ih wo k).lo, .int .i64 (holdL 0 hei slo pan top bot opn ll lh wl wh hl hh ol oh il ih wo k).hi] from hd 5 _ (by simp) rfl)
      dsimp only [upd, Nat.reduceBEq, cond_true, cond_false]
      refine wpOp_step rfl (fun K' hK' => ?_)
      go_simp
      refine (outside_any cl ch (holdL 0 hei slo pan top bot opn ll lh wl wh hl hh ol oh il ih wo k).lo (holdL 0 hei slo pan top bot opn ll lh wl wh hl hh ol oh il ih wo k).hi (by omega) (by omega) v).mono ?_
      rintro e v' ⟨rfl, hg⟩
      exact hK' _ _ (hK _ _ hg (at_of rfl (rfl)))
     ·obtain ⟨x, rfl⟩ := upd_of (show x 6 = .tuple #[.int .i64 (outN cl ch (holdL 0 hei slo pan top bot opn ll lh wl wh hl hh ol oh il ih wo k).lo (holdL 0 hei slo pan top bot opn ll lh wl wh hl hh ol oh il ih wo k).hi), .bool (outB cl ch (holdL 0 hei slo pan top bot opn ll lh wl wh hl hh ol oh il ih wo k).lo (holdL 0 hei slo pan top bot opn ll lh wl wh hl hh ol oh il ih wo k).hi)] from hd 6 _ (by simp) rfl)
      dsimp only [upd, Nat.reduceBEq, cond_true, cond_false]
      refine wpOp_step rfl (fun K' hK' => ?_)
      go_simp
      exact hK' _ _ (hK _ _ (Below.refl _ _) (at_of rfl (rfl)))
     ·obtain ⟨x, rfl⟩ := upd_of (show x 7 = .tuple #[.int .i64 (outN cl ch (holdL 0 hei slo pan top bot opn ll lh wl wh hl hh ol oh il ih wo k).lo (holdL 0 hei slo pan top bot opn ll lh wl wh hl hh ol oh il ih wo k).hi), .bool (outB cl ch (holdL 0 hei slo pan top bot opn ll lh wl wh hl hh ol oh il ih wo k).lo (holdL 0 hei slo pan top bot opn ll lh wl wh hl hh ol oh il ih wo k).hi)] from hd 7 _ (by simp) rfl)
      dsimp only [upd, Nat.reduceBEq, cond_true, cond_false]
      refine wpOp_step rfl (fun K' hK' => ?_)
      go_simp
      exact hK' _ _ (hK _ _ (Below.refl _ _) (at_of rfl (rfl)))
     ·obtain ⟨x, rfl⟩ := upd_of (show x 7 = .tuple #[.int .i64 (outN cl ch (holdL 0 hei slo pan top bot opn ll lh wl wh hl hh ol oh il ih wo k).lo (holdL 0 hei slo pan top bot opn ll lh wl wh hl hh ol oh il ih wo k).hi), .bool (outB cl ch (holdL 0 hei slo pan top bot opn ll lh wl wh hl hh ol oh il ih wo k).lo (holdL 0 hei slo pan top bot opn ll lh wl wh hl hh ol oh il ih wo k).hi)] from hd 7 _ (by simp) rfl)
      dsimp only [upd, Nat.reduceBEq, cond_true, cond_false]
      refine wpOp_step rfl (fun K' hK' => ?_)
      go_simp
      exact hK' _ _ (hK _ _ (Below.refl _ _) (at_of rfl (rfl)))
     ·obtain ⟨x, rfl⟩ := upd_of (show x 8 = .int .i64 (outN cl ch (holdL 0 hei slo pan top bot opn ll lh wl wh hl hh ol oh il ih wo k).lo (holdL 0 hei slo pan top bot opn ll lh wl wh hl hh ol oh il ih wo k).hi) from hd 8 _ (by simp) rfl)
      dsimp only [upd, Nat.reduceBEq, cond_true, cond_false]
      refine wpOp_step rfl (fun K' hK' => ?_)
      go_simp
      exact hK' _ _ (hK _ _ (Below.refl _ _) (at_of rfl (rfl)))
    case fin9 =>
     rintro x v gv hd
     obtain ⟨x, rfl⟩ := upd_of (show x 9 = .bool (outB cl ch (holdL 0 hei slo pan top bot opn ll lh wl wh hl hh ol oh il ih wo k).lo (holdL 0 hei slo pan top bot opn ll lh wl wh hl hh ol oh il ih wo k).hi) from hd 9 _ (by omega) rfl)
     obtain ⟨x, rfl⟩ := upd_of (show x 10 = .int .i64 (outN cl ch (holdL 0 hei slo pan top bot opn ll lh wl wh hl hh ol oh il ih wo k).lo (holdL 0 hei slo pan top bot opn ll lh wl wh hl hh ol oh il ih wo k).hi) from hd 10 _ (by omega) rfl)
     clear hd
     show wpList Try.prog _ _ (List.drop 11 _) (⟨#[_, _, _, _, _, _, _, _, _, _, _, _, .int .i64 (outN cl ch (holdL 0 hei slo pan top bot opn ll lh wl wh hl hh ol oh il ih wo k).lo (holdL 0 hei slo pan top bot opn ll lh wl wh hl hh ol oh il ih wo k).hi), _, _, _, _, _, _, _, _, _, _, _, _, _, _, _, _, _, _, x 7, x 0, x 1, x 2, x 3, x 4, x 5, x 6, x 8, .bool (outB cl ch (holdL 0 hei slo pan top bot opn ll lh wl wh hl hh ol oh il ih wo k).lo (holdL 0 hei slo pan top bot opn ll lh wl wh hl hh ol oh il ih wo k).hi), _, _, _, _, _, _, _, _, _], []⟩ : Act) v
     simp only [List.drop_succ_cons, List.drop_zero]
     have hO := hown
     have gk := gV.tr gv
     clear hb0 hb1 hb2 hb3 bX1 bW1 bC1
     cases hO : outB cl ch (holdL 0 hei slo pan top bot opn ll lh wl wh hl hh ol oh il ih wo k).lo (holdL 0 hei slo pan top bot opn ll lh wl wh hl hh ol oh il ih wo k).hi with
     | false =>
      have eL : badL cl ch (holdL 0 hei slo pan top bot opn ll lh wl wh hl hh ol oh il ih wo) (k + 1) = badL cl ch (holdL 0 hei slo pan top bot opn ll lh wl wh hl hh ol oh il ih wo) k := by
       show _ ++ _ = _
       rw [if_neg (by rw [hO]; decide)]
       simp
      have EL := Lib.hid eL
      clear eL hO
      go_wp2
      go_roundw
      case rel =>
       have h2 : Hid (∃ (k' : Nat) (vv' : Value), k' ≤ 10 ∧ Value.int .i64 ((k : Int) + 1) = .int .i64 k' ∧ vv = vv' ∧ Gr U v ∧ v.ownsRow U.heap.size 82 2 vv' (badL cl ch (holdL 0 hei slo pan top bot opn ll lh wl wh hl hh ol oh il ih wo) k').length ((badL cl ch (holdL 0 hei slo pan top bot opn ll lh wl wh hl hh ol oh il ih wo) k').flatMap encB)) :=
        Lib.hid ⟨k + 1, _, by omega, by go_num, rfl, gk, by rw [EL.out]; exact owns_keep hown gv⟩
       exact h2
      case measure => simp [intOf]; omega
     | true =>
      have eL : badL cl ch (holdL 0 hei slo pan top bot opn ll lh wl wh hl hh ol oh il ih wo) (k + 1) = badL cl ch (holdL 0 hei slo pan top bot opn ll lh wl wh hl hh ol oh il ih wo) k ++ [((k : Int), outN cl ch (holdL 0 hei slo pan top bot opn ll lh wl wh hl hh ol oh il ih wo k).lo (holdL 0 hei slo pan top bot opn ll lh wl wh hl hh ol oh il ih wo k).hi)] := by
       show _ ++ _ = _
       rw [if_pos hO]
      have EL := Lib.hid eL
      clear eL hO
      generalize outN cl ch (holdL 0 hei slo pan top bot opn ll lh wl wh hl hh ol oh il ih wo k).lo (holdL 0 hei slo pan top bot opn ll lh wl wh hl hh ol oh il ih wo k).hi = on at *
      have hoA := owns_keep hown (gv.tr (Gr.al v (.cells #[.int .i64 (k : Int), .int .i64 on] 82)))
      go_wp2_with (at_builtin; refine wpList_append_own _ rfl _ _ 73 rfl U.heap.size 82 i0 (.agg #[.int .i64 0, .int .i64 0]) 2 16 Try.underlying73 hi hz0 hz1 hz2 rfl (by decide) _ _ _ rfl hoA ⟨v.heap.size, 0, none⟩ 1 1 ([(k : Int), on].map (fun n => Value.int .i64 n)) rfl rfl (cell_news _ _ _) (ints_one _) hk1 hk2 (gk.tr (Gr.al _ _)).size ?_; intro v' w6 hown' hgrow' _)
      go_roundw
      case rel =>
       have hR : Gr U w6 := (gk.tr (Gr.al _ _)).grown' hoA (Nat.le_refl _) hgrow'
       have hLL : w6.ownsRow U.heap.size 82 2 v' (badL cl ch (holdL 0 hei slo pan top bot opn ll lh wl wh hl hh ol oh il ih wo) (k + 1)).length ((badL cl ch (holdL 0 hei slo pan top bot opn ll lh wl wh hl hh ol oh il ih wo) (k + 1)).flatMap encB) := by
        rw [EL.out, flat_snoc, List.length_append]
        exact hown'
       have h2 : Hid (∃ (k' : Nat) (vv' : Value), k' ≤ 10 ∧ Value.int .i64 ((k : Int) + 1) = .int .i64 k' ∧ v' = vv' ∧ Gr U w6 ∧ w6.ownsRow U.heap.size 82 2 vv' (badL cl ch (holdL 0 hei slo pan top bot opn ll lh wl wh hl hh ol oh il ih wo) k').length ((badL cl ch (holdL 0 hei slo pan top bot opn ll lh wl wh hl hh ol oh il ih wo) k').flatMap encB)) :=
        Lib.hid ⟨k + 1, _, by omega, by go_num, rfl, hR, hLL⟩
       exact h2
      case measure => simp [intOf]; omega
   ·obtain rfl : k = 10 := by omega
    obtain ⟨a, cap, hv, hr⟩ := owns_row (enc := encB) (l := badL cl ch (holdL 0 hei slo pan top bot opn ll lh wl wh hl hh ol oh il ih wo) 10) (fun _ => rfl) (by have := badL_len cl ch (holdL 0 hei slo pan top bot opn ll lh wl wh hl hh ol oh il ih wo) 10; omega) hown
    subst hv
    have Hr := Lib.hid hr
    clear hr
    go_wp2
    go_ret2
    exact ⟨a, cap, rfl, gg.tr gV, Hr.out⟩

end Go.Proofs.Ytoihnilgmdcndaa

namespace Go.Proofs.Ytoihnilgmdcndaa
open Go.RowKit

/-- Whatever lay in W, but for the blocks of Z, lies in W' as it lay. -/
structure Kx (Z : Nat → Prop) (W W' : World) : Prop where
  os : W'.os = W.os
  tape : W'.tape = W.tape
  output : W'.output = W.output
  size : W.heap.size ≤ W'.heap.size
  block : ∀ k, k < W.heap.size → ¬ Z k → W'.heap[k]? = W.heap[k]?

abbrev noBlock : Nat → Prop := fun _ => False

theorem Kx.refl (Z : Nat → Prop) (W : World) : Kx Z W W := ⟨rfl, rfl, rfl, Nat.le_refl _, fun _ _ _ => rfl⟩

theorem Kx.th {Z Z' : Nat → Prop} {a b c : World} (h : Kx Z a b) (k : Kx Z' b c) (hz : ∀ i, Z' i → Z i ∨ a.heap.size ≤ i) : Kx Z a c :=
  ⟨k.os.trans h.os, k.tape.trans h.tape, k.output.trans h.output, Nat.le_trans h.size k.size, fun i hi hn =>
    (k.block i (Nat.lt_of_lt_of_le hi h.size) (fun e => by rcases hz i e with e | e; exact hn e; omega)).trans (h.block i hi hn)⟩

theorem Kx.tr {Z : Nat → Prop} {a b c : World} (h : Kx Z a b) (k : Kx Z b c) : Kx Z a c := h.th k fun _ e => .inl e

theorem Kx.mono {Z Z' : Nat → Prop} {a b : World} (h : Kx Z a b) (hz : ∀ i, Z i → Z' i ∨ a.heap.size ≤ i) : Kx Z' a b :=
  (Kx.refl Z' a).th h hz

theorem Kx.gr {Z : Nat → Prop} {a b : World} (h : Gr a b) : Kx Z a b := ⟨h.os, h.tape, h.output, h.size, fun i hi _ => h.block i hi⟩

theorem Kx.al (Z : Nat → Prop) (w : World) (o : Obj) : Kx Z w (w.alloc o) := .gr (Gr.al w o)

theorem Kx.dr (Z : Nat → Prop) (w : World) : Kx Z w w.drew := ⟨rfl, rfl, rfl, Nat.le_refl _, fun _ _ _ => rfl⟩

theorem Kx.put {Z : Nat → Prop} {w : World} {l : Nat} (h : Z l) (o : Obj) : Kx Z w (w.putObj l o) :=
  ⟨rfl, rfl, rfl, by simp, fun k _ hk => World.putObj_heap_other (fun e => hk (e ▸ h))⟩

theorem Kx.set {Z : Nat → Prop} {w : World} {p : Addr} (h : Z p.block) (v : Value) : Kx Z w (w.setCell p v) :=
  ⟨rfl, rfl, rfl, by simp [World.setCell], fun k _ hk => Below.heap_setCell _ _ _ _ (fun e => hk (e ▸ h))⟩

theorem Kx.grown {Z : Nat → Prop} {w w' : World} {row : Option Nat} (hg : w.grownBy w' row) (h : ∀ r, row = some r → Z r ∨ w.heap.size ≤ r) : Kx Z w w' :=
  ⟨hg.os, hg.tape, hg.output, hg.size, fun k hk hz => hg.block k hk (fun e => by rcases h k e.symm with h | h; exact hz h; omega)⟩

theorem Kx.toGr {w w' : World} (h : Kx noBlock w w') : Gr w w' := ⟨h.os, h.tape, h.output, h.size, fun k hk => h.block k hk (fun e => e)⟩

theorem Kx.keepO {Z : Nat → Prop} {w w' : World} (h : Kx Z w w') {k : Nat} {o : Obj} (ho : w.heap[k]? = some o) (hz : ¬ Z k) : w'.heap[k]? = some o :=
  (h.block k (Array.getElem?_eq_some_iff.1 ho).1 hz).trans ho

/-- What holds whatever the holder of Y's blocks does. -/
def Ab (J : (Nat → Prop) → World → Prop) : Prop :=
  ∀ Y Y' A B, J Y A → Kx Y A B → (∀ k, Y' k → Y k ∨ A.heap.size ≤ k) → J Y' B

/-- The rounds' blocks and the iterator's are blocks of W, and none is both's. -/
structure Dj (X Y : Nat → Prop) (W : World) : Prop where
  x : ∀ k, X k → k < W.heap.size
  y : ∀ k, Y k → k < W.heap.size
  n : ∀ k, X k → ¬ Y k

variable {F : Fence} {n : Nat} {P : Program}

/-- An iterator's contract: of what lay in w0 it reads nothing in Z0's blocks; Good Z x W: x is at hand in W and stays so whoever turns Z's blocks. -/
def SeqX {α : Type} (F : Fence) (n : Nat) (P : Program) (g : Nat) (lb : Array Value) (encs : α → Array Value) (Good : List α → (Nat → Prop) → α → World → Prop) (S Sp : List α → Prop) (Z0 : Nat → Prop) (w0 : World) : Prop :=
  ∀ (l : Nat) (J : List α → (Nat → Prop) → (Nat → Prop) → World → Prop) (Jx : List α → (Nat → Prop) → World → Prop) (X0 : Nat → Prop) (W : World),
    Kx Z0 w0 W → (∀ k, X0 k → k < W.heap.size ∧ (Z0 k ∨ w0.heap.size ≤ k)) → (∀ s X, Ab (J s X)) → (∀ s, Ab (Jx s)) →
    (∀ pre x X Y W1, J pre X Y W1 → Good pre (fun k => X k ∨ Y k) x W1 → Dj X Y W1 → YieldAt F (n - 1) P l (encs x) W1 fun e W' => Kx X W1 W' ∧
      ((e = .returned (.bool true) ∧ ∃ X', J (pre ++ [x]) X' Y W' ∧ ∀ k, X' k → k < W'.heap.size ∧ (X k ∨ W1.heap.size ≤ k)) ∨ (e = .returned (.bool false) ∧ Jx (pre ++ [x]) Y W'))) →
    J [] X0 noBlock W →
    CallsIn F n P g (#[.func (.yield l) #[] #[]] ++ lb) W fun e W' => (∃ v, e = .returned v) ∧ ((∃ xs X Y, S xs ∧ J xs X Y W') ∨ (∃ pre Y, Sp pre ∧ Jx pre Y W'))

/-- How the body of a round may be left. -/
def postX {α : Type} (I : List α → (Nat → Prop) → (Nat → Prop) → World → Prop) (Ix : Code → List α → (Nat → Prop) → World → Prop) (xs : List α) (X Y : Nat → Prop) (W : World) : Exit → Act → World → Prop
  | .normal, _, W' => Kx X W W' ∧ ∃ X', I xs X' Y W' ∧ ∀ k, X' k → k < W'.heap.size ∧ (X k ∨ W.heap.size ≤ k)
  | .ret, _, W' => Kx X W W' ∧ Ix .ret xs Y W'
  | .exit id, _, W' => Kx X W W' ∧ Ix (.exit id) xs Y W'
  | .goto t, _, W' => Kx X W W' ∧ Ix (.goto t) xs Y W'
  | .panic _, _, _ => False
  | .outgrown, _, _ => False

/-- The iterator's call, the record l laid and block D holding o (which nobody turns). -/
theorem seqX_core {α : Type} {ps : Array Tmp} {assign body : Code} {tmps : Array Value} {fn : FuncId} (hfn : F.fn fn) (rec : LoopState → Option Code → Loop) (dd l D : Nat) (o : Obj) (T : Nat → Prop) (hTl : T l) (hT : ∀ k, T k → k = l ∨ k = D)
    (hrec : rec = fun st pe => { state := st, pending := pe, fn, tmps, params := ps, assign, body, defers := dd })
    {gf : Nat} {lb : Array Value} {encs : α → Array Value} {Good : List α → (Nat → Prop) → α → World → Prop} {S Sp : List α → Prop} {Z0 : Nat → Prop} {w0 W0 : World} (hseq : SeqX F (n - 1) P gf lb encs Good S Sp Z0 w0)
    (hk0 : Kx Z0 w0 W0) (hps : ∀ x, (encs x).size = ps.size)
    (hlD : D ≠ l) (hL0 : W0.heap[l]? = some (.loop (rec .ready none))) (hD0 : W0.heap[D]? = some o)
    (X0 : Nat → Prop) (hX0 : ∀ k, X0 k → k < W0.heap.size ∧ (Z0 k ∨ w0.heap.size ≤ k)) (hXl : ¬ X0 l) (hXD : ¬ X0 D) (hT0 : ∀ k, T k → w0.heap.size ≤ k)
    (I : List α → (Nat → Prop) → (Nat → Prop) → World → Prop) (Ix : Code → List α → (Nat → Prop) → World → Prop) (hI : ∀ s X, Ab (I s X)) (hIx : ∀ c s, Ab (Ix c s)) (h0 : I [] X0 T W0)
    (A : List α → α → Act → (Nat → Prop) → (Nat → Prop) → World → Prop) (hA : ∀ s x a X, Ab (A s x a X))
    (hassign : ∀ (pre : List α) (x : α) (X Y : Nat → Prop) (W : World) (K : Act → World → Prop), I pre X Y W → Good pre (fun k => X k ∨ Y k) x W → Dj X Y W →
      (∀ a' X' W', A pre x a' X' Y W' → Kx X W W' → (∀ k, X' k → k < W'.heap.size ∧ (X k ∨ W.heap.size ≤ k)) → K a' W') →
      assign.wpIn (F.inRound l) (n - 1 - 1) P (Exit.then K (fun _ _ _ => False)) { tmps := (ps.zip (encs x)).foldl (fun t (p, v) => t.setIfInBounds p v) tmps, defers := [] } W)
    (hbody : ∀ (pre : List α) (x : α) (a' : Act) (X Y : Nat → Prop) (W : World), A pre x a' X Y W → Dj X Y W → Y l → (∃ r, W.heap[l]? = some (.loop r)) →
      body.wpIn (F.inRound l) (n - 1 - 1) P (postX I Ix (pre ++ [x]) X Y W) a' W) :
    CallsIn F (n - 1) P gf (#[.func (.yield l) #[] #[]] ++ lb) W0 fun e W2 => ∃ v, e = .returned v ∧
      ((∃ xs X Y, S xs ∧ I xs X Y W2 ∧ (∀ k, T k → Y k) ∧ W2.heap[l]? = some (.loop (rec .ready none)) ∧ W2.heap[D]? = some o) ∨
       (∃ pre Y c, Sp pre ∧ Ix c pre Y W2 ∧ (∀ k, T k → Y k) ∧ W2.heap[l]? = some (.loop (rec .done (some c))) ∧ W2.heap[D]? = some o)) := by
  have hl0 : l < W0.heap.size := (Array.getElem?_eq_some_iff.1 hL0).1
  have hd0 : D < W0.heap.size := (Array.getElem?_eq_some_iff.1 hD0).1
  refine (hseq l
    (fun pre Xi Y W => ∃ X, Xi = (fun k => X k ∨ T k) ∧ I pre X (fun k => Y k ∨ T k) W ∧ W.heap[l]? = some (.loop (rec .ready none)) ∧ W.heap[D]? = some o ∧ ¬ Y l ∧ ¬ Y D ∧ ¬ X l ∧ ¬ X D)
    (fun pre Y W => ∃ c, Ix c pre (fun k => Y k ∨ T k) W ∧ W.heap[l]? = some (.loop (rec .done (some c))) ∧ W.heap[D]? = some o ∧ ¬ Y l ∧ ¬ Y D)
    (fun k => X0 k ∨ T k) W0 hk0 ?_ ?_ ?_ ?_ ?_).mono ?_
  · rintro k (h | h)
    · exact hX0 k h
    · exact ⟨by rcases hT k h with e | e <;> (rw [e]; assumption), .inr (hT0 k h)⟩
  · rintro s Xi Y Y' B C ⟨X, hXi, hi, hl, hd, h1, h2, h3, h4⟩ hk hy
    refine ⟨X, hXi, hI s X _ _ _ _ hi (hk.mono fun i e => .inl (.inl e)) ?_, hk.keepO hl h1, hk.keepO hd h2, ?_, ?_, h3, h4⟩
    · rintro k (e | e)
      · rcases hy k e with e | e
        · exact .inl (.inl e)
        · exact .inr e
      · exact .inl (.inr e)
    · intro e
      rcases hy l e with e | e
      · exact h1 e
      · have := (Array.getElem?_eq_some_iff.1 hl).1; omega
    · intro e
      rcases hy D e with e | e
      · exact h2 e
      · have := (Array.getElem?_eq_some_iff.1 hd).1; omega
  · rintro s Y Y' B C ⟨c, hi, hl, hd, h1, h2⟩ hk hy
    refine ⟨c, hIx c s _ _ _ _ hi (hk.mono fun i e => .inl (.inl e)) ?_, hk.keepO hl h1, hk.keepO hd h2, ?_, ?_⟩
    · rintro k (e | e)
      · rcases hy k e with e | e
        · exact .inl (.inl e)
        · exact .inr e
      · exact .inl (.inr e)
    · intro e
      rcases hy l e with e | e
      · exact h1 e
      · have := (Array.getElem?_eq_some_iff.1 hl).1; omega
    · intro e
      rcases hy D e with e | e
      · exact h2 e
      · have := (Array.getElem?_eq_some_iff.1 hd).1; omega
  · -- ONE ROUND
    rintro pre x Xi Y W ⟨X, rfl, hi, hl, hd, hYl, hYD, hXl, hXD⟩ hg hdj
    have hlt : l < W.heap.size := (Array.getElem?_eq_some_iff.1 hl).1
    have hdt : D < W.heap.size := (Array.getElem?_eq_some_iff.1 hd).1
    have hy := run_yield (P := P) (args := encs x) hl (by rw [hrec]; exact hps x)
    rw [hrec] at hy
    have hgz : Good pre (fun k => X k ∨ (Y k ∨ T k)) x W := by
      have e : (fun k => (X k ∨ T k) ∨ Y k) = fun k => X k ∨ (Y k ∨ T k) := by
        funext k
        exact propext ⟨fun h => by rcases h with (h | h) | h; exact .inl h; exact .inr (.inr h); exact .inr (.inl h), fun h => by rcases h with h | h | h; exact .inl (.inl h); exact .inr h; exact .inl (.inr h)⟩
      rw [← e]; exact hg
    have hTW : ∀ k, T k → k < W.heap.size := fun k e => by rcases hT k e with e | e <;> (rw [e]; assumption)
    have hTX : ∀ k, T k → ¬ X k := fun k e => by rcases hT k e with e | e <;> (rw [e]; assumption)
    have hdj' : Dj X (fun k => Y k ∨ T k) W := ⟨fun k e => hdj.x k (.inl e), fun k e => by rcases e with e | e; exact hdj.y k e; exact hTW k e, fun k e h => by
      rcases h with h | h
      · exact hdj.n k (.inl e) h
      · exact hTX k h e⟩
    refine ⟨fn, _, assign, body, hy, roundIn_of_wpIn hfn (hassign pre x X _ W _ hi hgz hdj' ?_)⟩
    clear hy
    intro a' X1 Wa ha hka hx1
    have hnl : ¬ X1 l := fun e => by rcases (hx1 l e).2 with h | h; exact hXl h; omega
    have hnD : ¬ X1 D := fun e => by rcases (hx1 D e).2 with h | h; exact hXD h; omega
    have hla := hka.keepO hl hXl
    have hda := hka.keepO hd hXD
    have hlta : l < Wa.heap.size := (Array.getElem?_eq_some_iff.1 hla).1
    refine ⟨_, run_beginRound hla (by rw [hrec]), ?_⟩
    obtain ⟨W2, hW2⟩ : ∃ W2, Wa.putObj l (.loop { rec .ready none with state := .busy }) = W2 := ⟨_, rfl⟩
    rw [hW2]
    have hsz2 : W2.heap.size = Wa.heap.size := by rw [← hW2]; simp
    have hl2 : W2.heap[l]? = some (.loop { rec .ready none with state := .busy }) := by rw [← hW2]; exact World.putObj_heap_same hlta
    have hd2 : W2.heap[D]? = some o := by rw [← hW2]; exact (World.putObj_heap_other hlD).trans hda
    have hk2 : ∀ Z : Nat → Prop, Z l → Kx Z Wa W2 := fun Z hz => by rw [← hW2]; exact Kx.put hz _
    have ha2 : A pre x a' X1 (fun k => Y k ∨ T k) W2 := hA pre x a' X1 _ _ _ _ ha (hk2 _ (.inr hTl)) fun k e => .inl e
    have hdj2 : Dj X1 (fun k => Y k ∨ T k) W2 := by
      refine ⟨fun k e => hsz2 ▸ (hx1 k e).1, fun k e => ?_, fun k e h => ?_⟩
      · have := hka.size
        rcases e with e | e
        · have := hdj.y k e; omega
        · have := hTW k e; omega
      · rcases (hx1 k e).2 with h' | h'
        · rcases h with h | h
          · exact hdj.n k (.inl h') h
          · exact hTX k h h'
        · rcases h with h | h
          · have := hdj.y k h; omega
          · have := hTW k h; omega
    refine wpIn_mono (hbody pre x a' X1 _ W2 ha2 hdj2 (.inr hTl) ⟨_, hl2⟩) ?_
    have fin : ∀ (jump : Option Code) (W3 : World), Kx X1 W2 W3 → ∃ W4, W4 = W3.putObj l (.loop (rec (if jump.isNone then .ready else .done) jump)) ∧
        (Instr.endRound l jump).run P W3 = .ok (.bool jump.isNone) W4 ∧ W4.heap[l]? = some (.loop (rec (if jump.isNone then .ready else .done) jump)) ∧ W4.heap[D]? = some o ∧ W4.heap.size = W3.heap.size ∧
        (∀ Z : Nat → Prop, Z l → Kx Z W3 W4) ∧ Kx (fun k => X k ∨ T k) W W4 := fun jump W3 hk3 => by
      have hl3 := hk3.keepO hl2 hnl
      have hd3 := hk3.keepO hd2 hnD
      have hr := run_endRound (P := P) jump hl3
      have hk4 : ∀ Z : Nat → Prop, Z l → Kx Z W3 (W3.putObj l (.loop (rec (if jump.isNone then .ready else .done) jump))) := fun Z hz => Kx.put hz _
      refine ⟨_, rfl, ?_, World.putObj_heap_same (Array.getElem?_eq_some_iff.1 hl3).1, (World.putObj_heap_other hlD).trans hd3, by simp, hk4, ?_⟩
      · rw [hrec] at hr ⊢; exact hr
      · have s1 : Kx (fun k => X k ∨ T k) W Wa := hka.mono fun i e => .inl (.inl e)
        have s2 : Kx (fun k => X k ∨ T k) W W2 := s1.tr (hk2 _ (.inr hTl))
        have s3 : Kx (fun k => X k ∨ T k) W W3 := s2.th hk3 fun i e => by rcases (hx1 i e).2 with h | h; exact .inl (.inl h); exact .inr h
        exact s3.tr (hk4 _ (.inr hTl))
    rintro e a3 W3 hp
    cases e with
    | normal =>
      obtain ⟨hk3, X', hi3, hx'⟩ := hp
      obtain ⟨W4, _, hr, hl4, hd4, hs4, hk4, hkk⟩ := fin none W3 hk3
      refine ⟨_, _, hr, hkk, .inl ⟨rfl, fun k => X' k ∨ T k, ⟨X', rfl, hI _ X' _ _ _ _ hi3 (hk4 _ (.inr hTl)) (fun k e => .inl e), hl4, hd4, hYl, hYD, ?_, ?_⟩, ?_⟩⟩
      · intro e; rcases (hx' l e).2 with h | h; exact hnl h; omega
      · intro e; have := hka.size; rcases (hx' D e).2 with h | h; exact hnD h; omega
      · have h1 := hka.size
        have h2 := hk3.size
        rintro k (e | e)
        · obtain ⟨b1, b2⟩ := hx' k e
          refine ⟨by omega, ?_⟩
          rcases b2 with b2 | b2
          · rcases (hx1 k b2).2 with h | h
            · exact .inl (.inl h)
            · exact .inr h
          · exact .inr (by omega)
        · exact ⟨by have := hTW k e; have := hka.size; omega, .inl (.inr e)⟩
    | ret =>
      obtain ⟨hk3, hi3⟩ := hp
      obtain ⟨W4, _, hr, hl4, hd4, hs4, hk4, hkk⟩ := fin (some .ret) W3 hk3
      exact ⟨_, _, hr, hkk, .inr ⟨rfl, .ret, hIx _ _ _ _ _ _ hi3 (hk4 _ (.inr hTl)) (fun k e => .inl e), hl4, hd4, hYl, hYD⟩⟩
    | exit id =>
      obtain ⟨hk3, hi3⟩ := hp
      obtain ⟨W4, _, hr, hl4, hd4, hs4, hk4, hkk⟩ := fin (some (.exit id)) W3 hk3
      exact ⟨_, _, hr, hkk, .inr ⟨rfl, .exit id, hIx _ _ _ _ _ _ hi3 (hk4 _ (.inr hTl)) (fun k e => .inl e), hl4, hd4, hYl, hYD⟩⟩
    | goto t =>
      obtain ⟨hk3, hi3⟩ := hp
      obtain ⟨W4, _, hr, hl4, hd4, hs4, hk4, hkk⟩ := fin (some (.goto t)) W3 hk3
      exact ⟨_, _, hr, hkk, .inr ⟨rfl, .goto t, hIx _ _ _ _ _ _ hi3 (hk4 _ (.inr hTl)) (fun k e => .inl e), hl4, hd4, hYl, hYD⟩⟩
    | panic ch => exact hp.elim
    | outgrown => exact hp.elim
  · refine ⟨X0, rfl, ?_, hL0, hD0, fun e => e, fun e => e, hXl, hXD⟩
    have e : (fun k => noBlock k ∨ T k) = T := by funext k; exact propext ⟨fun h => h.resolve_left fun e => e, .inr⟩
    rw [e]; exact h0
  · rintro e W2 ⟨⟨v, rfl⟩, (⟨xs, Xi, Y, hS, X, rfl, hi, hl, hd, _⟩ | ⟨pre, Y, hSp, c, hi, hl, hd, _⟩)⟩
    · exact ⟨v, rfl, .inl ⟨xs, X, _, hS, hi, fun k e => .inr e, hl, hd⟩⟩
    · exact ⟨v, rfl, .inr ⟨pre, _, c, hSp, hi, fun k e => .inr e, hl, hd⟩⟩

end Go.Proofs.Ytoihnilgmdcndaa

namespace Go.Proofs.Ytoihnilgmdcndaa
open Go.RowKit
variable {F : Fence} {n : Nat} {P : Program}

theorem wpIn_rangeX {α : Type} {g : Operand} {ps : Array Tmp} {assign body : Code} {Q : Exit → Act → World → Prop} {a : Act} {w : World}
    (hro : F.round = none) (h1 : 1 ≤ n) {gf : Nat} {lb : Array Value} (hg : a.eval g = .func (.func gf) #[] lb) (hFg : F.fn gf) (eg : ∀ args w, (callFunc gf args).run P w = .ok (.enter gf args) w)
    {encs : α → Array Value} {Good : List α → (Nat → Prop) → α → World → Prop} {S Sp : List α → Prop} {Z0 : Nat → Prop} {w0 : World} (hseq : SeqX F (n - 1) P gf lb encs Good S Sp Z0 w0)
    (hk0 : Kx Z0 w0 w) (hps : ∀ x, (encs x).size = ps.size)
    (X0 : Nat → Prop) (hX0 : ∀ k, X0 k → k < w.heap.size ∧ (Z0 k ∨ w0.heap.size ≤ k))
    (I : List α → (Nat → Prop) → (Nat → Prop) → World → Prop) (Ix : Code → List α → (Nat → Prop) → World → Prop) (hI : ∀ s X, Ab (I s X)) (hIx : ∀ c s, Ab (Ix c s)) (h0 : I [] X0 noBlock w)
    (A : List α → α → Act → (Nat → Prop) → (Nat → Prop) → World → Prop) (hA : ∀ s x a X, Ab (A s x a X))
    (hassign : ∀ (l : Nat) (pre : List α) (x : α) (X Y : Nat → Prop) (W : World) (K : Act → World → Prop), I pre X Y W → Good pre (fun k => X k ∨ Y k) x W → Dj X Y W →
      (∀ a' X' W', A pre x a' X' Y W' → Kx X W W' → (∀ k, X' k → k < W'.heap.size ∧ (X k ∨ W.heap.size ≤ k)) → K a' W') →
      assign.wpIn (F.inRound l) (n - 1 - 1) P (Exit.then K (fun _ _ _ => False)) { tmps := (ps.zip (encs x)).foldl (fun t (p, v) => t.setIfInBounds p v) a.tmps, defers := [] } W)
    (hbody : ∀ (l : Nat) (pre : List α) (x : α) (a' : Act) (X Y : Nat → Prop) (W : World), A pre x a' X Y W → Dj X Y W → Y l → (∃ r, W.heap[l]? = some (.loop r)) →
      body.wpIn (F.inRound l) (n - 1 - 1) P (postX I Ix (pre ++ [x]) X Y W) a' W)
    (hdone : ∀ (D : Nat) (xs : List α) (X Y : Nat → Prop) (W : World), w.heap.size ≤ D → S xs → I xs X Y W → Y D → W.heap[D]? = some (.deferred (some [])) → Q .normal { a with defers := { target := .collected D, args := #[] } :: a.defers } W)
    (hstop : ∀ (D : Nat) (c : Code) (pre : List α) (Y : Nat → Prop) (W : World), w.heap.size ≤ D → Sp pre → Ix c pre Y W → Y D → W.heap[D]? = some (.deferred (some [])) → c.wpIn F n P Q { a with defers := { target := .collected D, args := #[] } :: a.defers } W) :
    (Code.rangeFunc g ps assign body).wpIn F n P Q a w := by
  refine wpIn_rangeFunc ?_
  intro fn hfn
  rw [hro]
  obtain ⟨rec, hrec⟩ : ∃ rec : LoopState → Option Code → Loop, rec = fun st pe => { state := st, pending := pe, fn, tmps := a.tmps, params := ps, assign, body, defers := w.heap.size } := ⟨_, rfl⟩
  obtain ⟨W1, hW1⟩ : ∃ W1, (w.alloc (.deferred (some []))).alloc (.loop (rec .ready none)) = W1 := ⟨_, rfl⟩
  have hs1 : W1.heap.size = w.heap.size + 2 := by rw [← hW1]; simp
  have hL1 : W1.heap[w.heap.size + 1]? = some (.loop (rec .ready none)) := by
    rw [← hW1]; have := World.alloc_heap_new (w.alloc (.deferred (some []))) (.loop (rec .ready none)); rwa [World.size_alloc] at this
  have hK1 : W1.heap[w.heap.size]? = some (.deferred (some [])) := by
    rw [← hW1]; exact (Below.heap_alloc _ _ _ (by simp)).trans (World.alloc_heap_new w _)
  have hk1 : Kx noBlock w W1 := by rw [← hW1]; exact (Kx.al _ _ _).tr (Kx.al _ _ _)
  refine ⟨w.heap.size + 1, [{ target := .collected w.heap.size, args := #[] }], W1, { target := .fn (.func gf) lb, args := #[.func (.yield (w.heap.size + 1)) #[] #[]] }, W1, gf,
    #[.func (.yield (w.heap.size + 1)) #[] #[]] ++ lb, W1, ?_, ?_, ?_, ?_, fun _ => h1, ?_⟩
  · rw [← hW1, hrec]; exact run_enterLoop_outer _ _ _ _ _
  · simp only [resolve, hg]
    simp [go_sem]
  · intro f' hf'; simp [Target.leads] at hf'; subst hf'; exact hFg
  · simp [invoke, go_sem, eg]
  · refine (seqX_core hfn rec w.heap.size (w.heap.size + 1) w.heap.size (.deferred (some [])) (fun k => k = w.heap.size + 1 ∨ k = w.heap.size) (.inl rfl) (fun k e => e) hrec hseq (hk0.th hk1 fun _ e => e.elim) hps (by omega) hL1 hK1
      X0 (fun k e => ⟨by have := (hX0 k e).1; omega, (hX0 k e).2⟩) (fun e => by have := (hX0 _ e).1; omega) (fun e => by have := (hX0 _ e).1; omega) (fun k e => by have := hk0.size; rcases e with e | e <;> omega)
      I Ix hI hIx (hI _ _ _ _ _ _ h0 hk1 fun k e => .inr (by rcases e with e | e <;> omega)) A hA (fun pre x X Y W K => hassign _ pre x X Y W K) (fun pre x a' X Y W => hbody _ pre x a' X Y W)).mono ?_
    rintro e W2 ⟨v, rfl, (⟨xs, X, Y, hS, hi, hy, hl, hk⟩ | ⟨pre, Y, c, hSp, hi, hy, hl, hk⟩)⟩
    · exact ⟨none, _, by have := run_endLoop (P := P) hl (by rw [hrec]; simp); rw [hrec] at this; exact this, hdone _ xs X Y _ (Nat.le_refl _) hS (hI _ _ _ _ _ _ hi (Kx.put (hy _ (.inl rfl)) _) fun k e => .inl e) (hy _ (.inr rfl)) ((World.putObj_heap_other (by omega)).trans hk)⟩
    · exact ⟨some c, _, by have := run_endLoop (P := P) hl (by rw [hrec]; simp); rw [hrec] at this; exact this, hstop _ c pre Y _ (Nat.le_refl _) hSp (hIx _ _ _ _ _ _ hi (Kx.put (hy _ (.inl rfl)) _) fun k e => .inl e) (hy _ (.inr rfl)) ((World.putObj_heap_other (by omega)).trans hk)⟩

theorem SeqX.inRound {α : Type} {g : Nat} {lb : Array Value} {encs : α → Array Value} {Good : List α → (Nat → Prop) → α → World → Prop} {S Sp : List α → Prop} {Z0 : Nat → Prop} {w0 : World} (l : Nat)
    (h : SeqX F n P g lb encs Good S Sp Z0 w0) : SeqX (F.inRound l) n P g lb encs Good S Sp Z0 w0 := h

/-- Said of every world that Z's holders may make of W. -/
def St (Z : Nat → Prop) (p : World → Prop) (W : World) : Prop := ∀ B, Kx Z W B → p B

theorem St.keep {Z Z' : Nat → Prop} {p : World → Prop} {W W' : World} (h : St Z p W) (k : Kx Z W W') (hz : ∀ i, Z' i → Z i ∨ W.heap.size ≤ i) : St Z' p W' := fun B kb => h B (k.th kb hz)

theorem St.ab (p : World → Prop) : Ab (fun Y => St Y p) := fun _ _ _ _ h k hy => h.keep k hy

theorem St.imp {Z : Nat → Prop} {p q : World → Prop} {W : World} (h : St Z p W) (k : ∀ B, p B → q B) : St Z q W := fun B kb => k B (h B kb)

theorem St.and {Z : Nat → Prop} {p q : World → Prop} {W : World} (h : St Z p W) (k : St Z q W) : St Z (fun B => p B ∧ q B) W := fun B kb => ⟨h B kb, k B kb⟩

theorem Own.kx {Z : Nat → Prop} {w w' : World} {b : Nat} {vs : List Value} (h : Own w b vs) (k : Kx Z w w') (hz : ¬ Z b) : Own w' b vs := by
  have hb := k.block b h.1.1 hz
  exact ⟨⟨Nat.lt_of_lt_of_le h.1.1 k.size, fun i v hv => (World.cell?_of_block (w := w) (a := ⟨b, i, none⟩) hb).trans (h.1.2 i v hv)⟩,
    fun i => (World.frozen?_of_block (w := w) (a := ⟨b, i, none⟩) hb).trans (h.2 i)⟩

theorem RowOf.kx {α : Type} {sz : Nat} {enc : α → List Value} {w w' : World} {a : Option Addr} {l : List α} {Z : Nat → Prop} (h : RowOf sz enc w a l) (k : Kx Z w w') (hz : ∀ b off, a = some ⟨b, off, none⟩ → ¬ Z b) : RowOf sz enc w' a l := by
  refine ⟨h.1, fun j x hx => ?_⟩
  obtain ⟨b, off, ha, hb, hc⟩ := h.2 j x hx
  have hbk := k.block b hb (hz b off ha)
  exact ⟨b, off, ha, Nat.lt_of_lt_of_le hb k.size, fun i v hv => (World.cell?_of_block (w := w) (a := ⟨b, off + j * sz + i, none⟩) hbk).trans (hc i v hv)⟩

theorem Own.st {Z : Nat → Prop} {w : World} {b : Nat} {vs : List Value} (h : Own w b vs) (hz : ¬ Z b) : St Z (fun B => Own B b vs) w := fun _ k => h.kx k hz

theorem RowOf.st {α : Type} {sz : Nat} {enc : α → List Value} {w : World} {a : Option Addr} {l : List α} {Z : Nat → Prop} (h : RowOf sz enc w a l) (hz : ∀ b off, a = some ⟨b, off, none⟩ → ¬ Z b) : St Z (fun B => RowOf sz enc B a l) w := fun _ k => h.kx k hz

end Go.Proofs.Ytoihnilgmdcndaa

namespace Go.Proofs.Ytoihnilgmdcndaa
set_option linter.unusedVariables false
set_option linter.unusedSimpArgs false
open Go.RowKit

/-- Whether a blank's numbers lie within their limits. -/
def goodN (tab hei slo : Int) (pan top bot : List Int) (opn : Bool) : Bool :=
 inB 0 100 [tab] && (inB 1 3000 pan && (inB 1 3000 [hei] && (inB 0 3000 top && (inB 0 3000 bot && (inB 0 20 [slo] && (!opn || inB 0 0 top))))))

/-- The error of a blank. -/
def checkE (tab hei slo : Int) (pan top bot : List Int) (opn : Bool) : Int :=
 if pan.length = 4 ∧ top.length = 2 ∧ bot.length = 2 then (if goodN tab hei slo pan top bot opn = true then 0 else 2) else 4

theorem checkE_form {tab hei slo : Int} {pan top bot : List Int} {opn : Bool} (h : ¬ (pan.length = 4 ∧ top.length = 2 ∧ bot.length = 2)) : checkE tab hei slo pan top bot opn = 4 := by unfold checkE; rw [if_neg h]

theorem checkE_arg {tab hei slo : Int} {pan top bot : List Int} {opn : Bool} (h : pan.length = 4 ∧ top.length = 2 ∧ bot.length = 2) (g : goodN tab hei slo pan top bot opn = false) : checkE tab hei slo pan top bot opn = 2 := by unfold checkE; rw [if_pos h, g]; rfl

theorem checkE_ok {tab hei slo : Int} {pan top bot : List Int} {opn : Bool} (h : pan.length = 4 ∧ top.length = 2 ∧ bot.length = 2) (g : goodN tab hei slo pan top bot opn = true) : checkE tab hei slo pan top bot opn = 0 := by unfold checkE; rw [if_pos h, g]; rfl

/-- A blank without an error. -/
theorem good_of {tab hei slo : Int} {pan top bot : List Int} {opn : Bool} (h : checkE tab hei slo pan top bot opn = 0) : GoodB tab hei slo pan top bot opn := by
 unfold checkE at h
 split at h
 case isFalse => cases h
 rename_i hl
 split at h
 case isFalse => cases h
 rename_i g
 simp only [goodN, Bool.and_eq_true, Bool.or_eq_true, Bool.not_eq_true'] at g
 obtain ⟨g1, g2, g3, g4, g5, g6, g7⟩ := g
 refine ⟨hl.1, hl.2.1, hl.2.2, ?_, ?_, ?_, ?_, ?_, ?_, ?_⟩
 all_goals first | assumption | (intro ho; rcases g7 with g7 | g7; (rw [ho] at g7; cases g7); exact g7)

theorem of_good {tab hei slo : Int} {pan top bot : List Int} {opn : Bool} (G : GoodB tab hei slo pan top bot opn) : checkE tab hei slo pan top bot opn = 0 := by
 refine checkE_ok ⟨G.l4, G.t2, G.b2⟩ ?_
 simp only [goodN, G.gtab, G.gpan, G.ghei, G.gtop, G.gbot, G.gslo, Bool.true_and]
 cases opn with
 | false => rfl
 | true => simp [G.gopn rfl]

set_option maxRecDepth 100000 in
set_option maxHeartbeats 4000000 in
theorem blank_any (tab hei slo : Int) (pan top bot : List Int) (pa ta ba : Option Addr) (pc tc bc : Nat) (opn : Bool) (w : World) (hp : IRow w pa pan) (ht : IRow w ta top) (hb : IRow w ba bot) :
  Calls Try.prog 17 #[.agg #[.int .i64 tab, .slice pa pan.length pc, .int .i64 hei, .slice ta top.length tc, .slice ba bot.length bc, .int .i64 slo, .bool opn]] w fun e w' => e = .returned (.int .i64 (checkE tab hei slo pan top bot opn)) ∧ Gr w w' := by
 have gX := Gr.al w (.cells #[.int .i64 tab, .slice pa pan.length pc, .int .i64 hei, .slice ta top.length tc, .slice ba bot.length bc, .int .i64 slo, .bool opn] 24)
 have hB := Box.new w [.int .i64 tab, .slice pa pan.length pc, .int .i64 hei, .slice ta top.length tc, .slice ba bot.length bc, .int .i64 slo, .bool opn] 24 w.heap.size rfl
 by_cases h1 : pan.length = 4
 case neg =>
  rw [checkE_form (fun h => h1 h.1)]
  have l1 : ((pan.length : Int) != 4) = true := by rw [bne_iff_ne]; omega
  clear h1
  go_enter Try.func17, Try.ntmps17
  go_wp2
  go_ret
  exact ⟨rfl, gX⟩
 by_cases h2 : top.length = 2
 case neg =>
  rw [checkE_form (fun h => h2 h.2.1)]
  have l1 : ((pan.length : Int) != 4) = false := by rw [h1]; rfl
  have l2 : ((top.length : Int) != 2) = true := by rw [bne_iff_ne]; omega
  clear h1 h2
  go_enter Try.func17, Try.ntmps17
  go_wp2
  go_ret
  exact ⟨rfl, gX⟩
 by_cases h3 : bot.length = 2
 case neg =>
  rw [checkE_form (fun h => h3 h.2.2)]
  have l1 : ((pan.length : Int) != 4) = false := by rw [h1]; rfl
  have l2 : ((top.length : Int) != 2) = false := by rw [h2]; rfl
  have l3 : ((bot.length : Int) != 2) = true := by rw [bne_iff_ne]; omega
  clear h1 h2 h3
  go_enter Try.func17, Try.ntmps17
  go_wp2
  go_ret
  exact ⟨rfl, gX⟩
 have HL := Lib.hid (And.intro h1 (And.intro h2 h3))
 have l1 : ((pan.length : Int) != 4) = false := by rw [h1]; rfl
 have l2 : ((top.length : Int) != 2) = false := by rw [h2]; rfl
 have l3 : ((bot.length : Int) != 2) = false := by rw [h3]; rfl
 clear h1 h2 h3
 obtain ⟨E, hE⟩ : ∃ E, E = checkE tab hei slo pan top bot opn := ⟨_, rfl⟩
 rw [← hE]
 have HE := Lib.hid hE
 clear hE
 go_enter Try.func17, Try.ntmps17
 go_wp2_with fail
 obtain ⟨d1, hd1⟩ : ∃ d, inB 0 100 [tab] = d := ⟨_, rfl⟩
 have hr1 := within_any 0 100 [tab] _ hd1 (some ⟨w.heap.size + 1, 0, none⟩) 1 _ (IRow.new' (w.alloc (.cells #[.int .i64 tab, .slice pa pan.length pc, .int .i64 hei, .slice ta top.length tc, .slice ba bot.length bc, .int .i64 slo, .bool opn] 24)) 3 [tab] (by simp) (w.heap.size + 1) (by simp) #[.int .i64 tab] (by simp))
 have D1 := Lib.hid hd1
 clear hd1
 refine hr1.mono ?_
 rintro e w1 ⟨rfl, hx⟩
 have g1 := gX.tr ((Gr.al _ _).tr hx)
 have B1 := hB.keep ((Gr.al _ _).tr hx)
 clear hr1 hx
 obtain ⟨q0, q1, q2, q3, q4, q5, q6⟩ := B1.c7
 cases d1 with
 | false =>
  have E2 : E = 2 := HE.out.trans (checkE_arg HL.out (by simp [goodN, D1.out]))
  subst E2
  go_wp2
  go_ret
  exact ⟨rfl, g1⟩
 | true =>
  clear hB gX
  go_wp2_with fail
  obtain ⟨d2, hd2⟩ : ∃ d, inB 1 3000 pan = d := ⟨_, rfl⟩
  have hr1 := within_any 1 3000 pan _ hd2 pa pc w1 (hp.grow g1)
  have D2 := Lib.hid hd2
  clear hd2
  refine hr1.mono ?_
  rintro e w2 ⟨rfl, hx⟩
  have g2 := g1.tr (hx)
  have B2 := B1.keep (hx)
  clear hr1 hx
  obtain ⟨q0, q1, q2, q3, q4, q5, q6⟩ := B2.c7
  cases d2 with
  | false =>
   have E2 : E = 2 := HE.out.trans (checkE_arg HL.out (by simp [goodN, D1.out, D2.out]))
   subst E2
   go_wp2
   go_ret
   exact ⟨rfl, g2⟩
  | true =>
   clear B1 g1
   go_wp2_with fail
   obtain ⟨d3, hd3⟩ : ∃ d, inB 1 3000 [hei] = d := ⟨_, rfl⟩
   have hr1 := within_any 1 3000 [hei] _ hd3 (some ⟨w2.heap.size, 0, none⟩) 1 _ (IRow.new' w2 3 [hei] (by simp) (w2.heap.size) (by simp) #[.int .i64 hei] (by simp))
   have D3 := Lib.hid hd3
   clear hd3
   refine hr1.mono ?_
   rintro e w3 ⟨rfl, hx⟩
   have g3 := g2.tr ((Gr.al _ _).tr hx)
   have B3 := B2.keep ((Gr.al _ _).tr hx)
   clear hr1 hx
   obtain ⟨q0, q1, q2, q3, q4, q5, q6⟩ := B3.c7
   cases d3 with
   | false =>
    have E2 : E = 2 := HE.out.trans (checkE_arg HL.out (by simp [goodN, D1.out, D2.out, D3.out]))
    subst E2
    go_wp2
    go_ret
    exact ⟨rfl, g3⟩
   | true =>
    clear B2 g2
    go_wp2_with fail
    obtain ⟨d4, hd4⟩ : ∃ d, inB 0 3000 top = d := ⟨_, rfl⟩
    have hr1 := within_any 0 3000 top _ hd4 ta tc w3 (ht.grow g3)
    have D4 := Lib.hid hd4
    clear hd4
    refine hr1.mono ?_
    rintro e w4 ⟨rfl, hx⟩
    have g4 := g3.tr (hx)
    have B4 := B3.keep (hx)
    clear hr1 hx
    obtain ⟨q0, q1, q2, q3, q4, q5, q6⟩ := B4.c7
    cases d4 with
    | false =>
     have E2 : E = 2 := HE.out.trans (checkE_arg HL.out (by simp [goodN, D1.out, D2.out, D3.out, D4.out]))
     subst E2
     go_wp2
     go_ret
     exact ⟨rfl, g4⟩
    | true =>
     clear B3 g3
     go_wp2_with fail
     obtain ⟨d5, hd5⟩ : ∃ d, inB 0 3000 bot = d := ⟨_, rfl⟩
     have hr1 := within_any 0 3000 bot _ hd5 ba bc w4 (hb.grow g4)
     have D5 := Lib.hid hd5
     clear hd5
     refine hr1.mono ?_
     rintro e w5 ⟨rfl, hx⟩
     have g5 := g4.tr (hx)
     have B5 := B4.keep (hx)
     clear hr1 hx
     obtain ⟨q0, q1, q2, q3, q4, q5, q6⟩ := B5.c7
     cases d5 with
     | false =>
      have E2 : E = 2 := HE.out.trans (checkE_arg HL.out (by simp [goodN, D1.out, D2.out, D3.out, D4.out, D5.out]))
      subst E2
      go_wp2
      go_ret
      exact ⟨rfl, g5⟩
     | true =>
      clear B4 g4
      go_wp2_with fail
      obtain ⟨d6, hd6⟩ : ∃ d, inB 0 20 [slo] = d := ⟨_, rfl⟩
      have hr1 := within_any 0 20 [slo] _ hd6 (some ⟨w5.heap.size, 0, none⟩) 1 _ (IRow.new' w5 3 [slo] (by simp) (w5.heap.size) (by simp) #[.int .i64 slo] (by simp))
      have D6 := Lib.hid hd6
      clear hd6
      refine hr1.mono ?_
      rintro e w6 ⟨rfl, hx⟩
      have g6 := g5.tr ((Gr.al _ _).tr hx)
      have B6 := B5.keep ((Gr.al _ _).tr hx)
      clear hr1 hx
      obtain ⟨q0, q1, q2, q3, q4, q5, q6⟩ := B6.c7
      cases d6 with
      | false =>
       have E2 : E = 2 := HE.out.trans (checkE_arg HL.out (by simp [goodN, D1.out, D2.out, D3.out, D4.out, D5.out, D6.out]))
       subst E2
       go_wp2
       go_ret
       exact ⟨rfl, g6⟩
      | true =>
       cases opn with
       | false =>
        have E2 : E = 0 := HE.out.trans (checkE_ok HL.out (by simp [goodN, D1.out, D2.out, D3.out, D4.out, D5.out, D6.out]))
        subst E2
        go_wp2
        go_ret
        exact ⟨rfl, g6⟩
       | true =>
        obtain ⟨d7, hd7⟩ : ∃ d, inB 0 0 top = d := ⟨_, rfl⟩
        have hr1 := within_any 0 0 top _ hd7 ta tc w6 (ht.grow g6)
        go_wp2_with fail
        refine hr1.mono ?_
        rintro e w7 ⟨rfl, hx⟩
        have g7 := g6.tr hx
        clear hr1 hx
        cases d7 with
        | false =>
         have E2 : E = 2 := HE.out.trans (checkE_arg HL.out (by simp [goodN, hd7]))
         subst E2
         go_wp2
         go_ret
         exact ⟨rfl, g7⟩
        | true =>
         have E2 : E = 0 := HE.out.trans (checkE_ok HL.out (by simp [goodN, hd7, D1.out, D2.out, D3.out, D4.out, D5.out, D6.out]))
         subst E2
         go_wp2
         go_ret
         exact ⟨rfl, g7⟩

/-- The error of a wish. -/
def wishE (ll lh wl wh hl hh ol oh il ih : Int) : Int :=
 if (([⟨ll, lh⟩, ⟨wl, wh⟩, ⟨hl, hh⟩] : List Sp).all (okSp 0 3000) && ([⟨ol, oh⟩, ⟨il, ih⟩] : List Sp).all (okSp (-3000) 3000)) = true then 0 else 2

theorem goodW_of {ll lh wl wh hl hh ol oh il ih : Int} (h : wishE ll lh wl wh hl hh ol oh il ih = 0) : GoodWish ll lh wl wh hl hh ol oh il ih := by
 unfold wishE at h
 split at h
 case isFalse => cases h
 rename_i g
 simp only [List.all_cons, List.all_nil, Bool.and_true, okSp, okSpan, inB, in1, Bool.and_eq_true, decide_eq_true_eq] at g
 exact ⟨by omega, by omega, by omega, by omega, by omega⟩

theorem of_goodW {ll lh wl wh hl hh ol oh il ih : Int} (H : GoodWish ll lh wl wh hl hh ol oh il ih) : wishE ll lh wl wh hl hh ol oh il ih = 0 := by
 unfold wishE
 rw [H.sp.1, H.sp.2]
 rfl

theorem valid3_any (lo hi a b c d e f : Int) (g : Bool) (h : ([⟨a, b⟩, ⟨c, d⟩, ⟨e, f⟩] : List Sp).all (okSp lo hi) = g) (ad : Option Addr) (cap : Nat) (w : World) (hr : SRow w ad [⟨a, b⟩, ⟨c, d⟩, ⟨e, f⟩]) :
  Calls Try.prog 95 #[.int .i64 lo, .int .i64 hi, .slice ad 3 cap] w fun e w' => e = .returned (.bool g) ∧ Gr w w' := valids_any lo hi _ g h ad cap w hr

theorem valid2_any (lo hi a b c d : Int) (g : Bool) (h : ([⟨a, b⟩, ⟨c, d⟩] : List Sp).all (okSp lo hi) = g) (ad : Option Addr) (cap : Nat) (w : World) (hr : SRow w ad [⟨a, b⟩, ⟨c, d⟩]) :
  Calls Try.prog 95 #[.int .i64 lo, .int .i64 hi, .slice ad 2 cap] w fun e w' => e = .returned (.bool g) ∧ Gr w w' := valids_any lo hi _ g h ad cap w hr

set_option maxRecDepth 100000 in
set_option maxHeartbeats 4000000 in
theorem wishes_any (ll lh wl wh hl hh ol oh il ih : Int) (wo : Bool) (w : World) :
  Calls Try.prog 73 #[.agg #[.int .i64 ll, .int .i64 lh, .int .i64 wl, .int .i64 wh, .int .i64 hl, .int .i64 hh, .int .i64 ol, .int .i64 oh, .int .i64 il, .int .i64 ih, .bool wo]] w fun e w' => e = .returned (.int .i64 (wishE ll lh wl wh hl hh ol oh il ih)) ∧ Gr w w' := by
 have gg := Gr.al w (.cells #[.int .i64 ll, .int .i64 lh, .int .i64 wl, .int .i64 wh, .int .i64 hl, .int .i64 hh, .int .i64 ol, .int .i64 oh, .int .i64 il, .int .i64 ih, .bool wo] 48)
 have hb := Box.new w [.int .i64 ll, .int .i64 lh, .int .i64 wl, .int .i64 wh, .int .i64 hl, .int .i64 hh, .int .i64 ol, .int .i64 oh, .int .i64 il, .int .i64 ih, .bool wo] 48 w.heap.size rfl
 obtain ⟨d3, s3⟩ : ∃ d, ([⟨ll, lh⟩, ⟨wl, wh⟩, ⟨hl, hh⟩] : List Sp).all (okSp 0 3000) = d := ⟨_, rfl⟩
 obtain ⟨d2, s2⟩ : ∃ d, ([⟨ol, oh⟩, ⟨il, ih⟩] : List Sp).all (okSp (-3000) 3000) = d := ⟨_, rfl⟩
 have S3 := Lib.hid s3
 have S2 := Lib.hid s2
 have E : wishE ll lh wl wh hl hh ol oh il ih = if (d3 && d2) = true then 0 else 2 := by unfold wishE; rw [s3, s2]
 rw [E]
 clear E s3 s2
 have q0 := hb.2 0 _ rfl
 have q1 := hb.2 1 _ rfl
 have q2 := hb.2 2 _ rfl
 have q3 := hb.2 3 _ rfl
 have q4 := hb.2 4 _ rfl
 have q5 := hb.2 5 _ rfl
 go_enter Try.func73, Try.ntmps73
 go_wp2_with fail
 refine (valid3_any 0 3000 ll lh wl wh hl hh d3 S3.out _ _ _ (SRow.new3 _ _ _ _ _ _ _ _ _ (by simp))).mono ?_
 rintro e w1 ⟨rfl, hx⟩
 have g1 := (Gr.al _ _).tr hx
 clear q0 q1 q2 q3 q4 q5
 have hb1 := hb.keep g1
 have q6 := hb1.2 6 _ rfl
 have q7 := hb1.2 7 _ rfl
 have q8 := hb1.2 8 _ rfl
 have q9 := hb1.2 9 _ rfl
 cases d3 with
 | false =>
  clear q6 q7 q8 q9
  go_wp2
  go_ret
  exact ⟨rfl, gg.tr g1⟩
 | true =>
  go_wp2_with fail
  refine (valid2_any (-3000) 3000 ol oh il ih d2 S2.out _ _ _ (SRow.new2 _ _ _ _ _ _ _ rfl)).mono ?_
  rintro e w2 ⟨rfl, hy⟩
  clear q6 q7 q8 q9
  cases d2 with
  | false =>
   go_wp2
   go_ret
   exact ⟨rfl, (gg.tr g1).tr ((Gr.al _ _).tr hy)⟩
  | true =>
   go_wp2
   go_ret
   exact ⟨rfl, (gg.tr g1).tr ((Gr.al _ _).tr hy)⟩

theorem known2_any (n : Int) (w : World) :
  Calls Try.prog 67 #[.int .i64 n] w fun e w' => e = .returned (.int .i64 (if inB 0 5 [n] = true then 0 else 7)) ∧ Gr w w' := by
 have hr := IRow.new' w 3 [n] (by simp) w.heap.size rfl #[.int .i64 n] (by simp)
 obtain ⟨d, hd⟩ : ∃ d, inB 0 5 [n] = d := ⟨_, rfl⟩
 rw [hd]
 cases d with
 | true => exact known_ok n hd w
 | false =>
  go_enter Try.func67, Try.ntmps67
  go_wp2_with (go_at_call 63; refine (within_any _ _ [n] _ hd _ _ _ hr).mono ?_; rintro e w1 ⟨rfl, hg⟩)
  go_ret
  exact ⟨rfl, (Gr.al _ _).tr hg⟩

def measE (l : List Sp) : Int := if l.all (okSp 1 10000) = true then 0 else 3

theorem measured_any (l : List Sp) (a : Option Addr) (cap : Nat) (w : World) (hr : SRow w a l) :
  Calls Try.prog 66 #[.slice a l.length cap] w fun e w' => e = .returned (.int .i64 (measE l)) ∧ Gr w w' := by
 unfold measE
 obtain ⟨d, hd⟩ : ∃ d, l.all (okSp 1 10000) = d := ⟨_, rfl⟩
 rw [hd]
 cases d with
 | true => exact measured_ok l hd a cap w hr
 | false =>
  go_enter Try.func66, Try.ntmps66
  go_wp2_with (go_at_call 95; refine (valids_any _ _ l _ hd _ _ _ hr).mono ?_; rintro e w1 ⟨rfl, hg⟩)
  go_ret
  exact ⟨rfl, hg⟩

theorem measured_one (c d : Int) (a : Option Addr) (cap : Nat) (w : World) (hr : SRow w a [⟨c, d⟩]) :
  Calls Try.prog 66 #[.slice a 1 cap] w fun e w' => e = .returned (.int .i64 (measE [⟨c, d⟩])) ∧ Gr w w' := measured_any [⟨c, d⟩] a cap w hr

/-- The first error of some. -/
def firstE : List Int → Int
 | [] => 0
 | e :: l => if e = 0 then firstE l else e

theorem firstE_drop {l : List Int} {k : Nat} {x : Int} (hx : l[k]? = some x) : firstE (l.drop k) = if x = 0 then firstE (l.drop (k + 1)) else x := by
 have hk := (List.getElem?_eq_some_iff.1 hx).1
 rw [List.drop_eq_getElem_cons hk]
 have : l[k] = x := (List.getElem?_eq_some_iff.1 hx).2
 rw [this]
 rfl

set_option maxHeartbeats 400000 in
theorem first_any (l : List Int) (a : Option Addr) (cap : Nat) (w : World) (hr : IRow w a l) :
  Calls Try.prog 65 #[.slice a l.length cap] w fun e w' => e = .returned (.int .i64 (firstE l)) ∧ Gr w w' := by
 have hm := hr.1
 obtain ⟨E, hE⟩ : ∃ E, E = firstE l := ⟨_, rfl⟩
 rw [← hE]
 have HE := Lib.hid hE
 clear hE
 go_enter Try.func65, Try.ntmps65
 go_wp2
 go_loop [7] (fun i => ∃ k : Nat, k ≤ l.length ∧ i = .int .i64 k ∧ Hid (firstE (l.drop k) = E)) (fun i => l.length - (intOf i).toNat)
 case atStart => exact ⟨0, Nat.zero_le _, rfl, Lib.hid HE.out.symm⟩
 case round =>
  obtain ⟨k, hk, rfl, H⟩ := hrel
  by_cases hlt : k < l.length
  ·obtain ⟨x, hx⟩ := get_of_lt hlt
   obtain ⟨b0, off, rfl, hb, hc⟩ := hr.get hx
   have hf := firstE_drop hx
   by_cases h0 : x = 0
   ·subst h0
    rw [if_pos rfl] at hf
    have HF := Lib.hid (hf.symm.trans H.out)
    clear hf hx H
    go_wp2
    go_round
    case rel => exact ⟨k + 1, by omega, by go_num, HF⟩
    case measure => simp [intOf]; omega
   ·rw [if_neg h0] at hf
    have HF := Lib.hid (hf.symm.trans H.out)
    have h0' : (x != 0) = true := by rw [bne_iff_ne]; exact h0
    clear hf hx H
    go_wp2
    go_ret
    exact ⟨ret_int HF.out, Below.refl _ _⟩
  ·obtain rfl : k = l.length := by omega
   have h0 := H.out
   rw [List.drop_length] at h0
   have H0 := Lib.hid h0
   clear h0 H
   go_wp2
   go_ret
   exact ⟨ret_int H0.out, Below.refl _ _⟩

theorem first_2 (x y : Int) (ad : Option Addr) (cap : Nat) (w : World) (hr : IRow w ad [x, y]) :
  Calls Try.prog 65 #[.slice ad 2 cap] w fun e w' => e = .returned (.int .i64 (firstE [x, y])) ∧ Gr w w' := first_any [x, y] ad cap w hr

theorem first_4 (x y z u : Int) (ad : Option Addr) (cap : Nat) (w : World) (hr : IRow w ad [x, y, z, u]) :
  Calls Try.prog 65 #[.slice ad 4 cap] w fun e w' => e = .returned (.int .i64 (firstE [x, y, z, u])) ∧ Gr w w' := first_any [x, y, z, u] ad cap w hr

end Go.Proofs.Ytoihnilgmdcndaa
