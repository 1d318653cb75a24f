/- The contract of a sheet's holding. (Made by gen_s13.py.) -/
import Derived.Test.YtaommdjekddgiaaQs
import Derived.Test.YtaommdjekddgiaaQr
import Derived.Deep.MidRow
import Derived.Deep.CutRange
import Derived.Deep.DeepCutAuto
namespace Go.Proofs.Ytaommdjekddgiaa
set_option linter.unusedVariables false
set_option linter.unusedSimpArgs false
open Go.RowKit

/-- All calipers with which a check of a sheet holds. -/
def holdL (off hei slo : Int) (pan top bot : List Int) (opn : Bool) (ll lh wl wh hl hh ol oh il ih : Int) (wo : Bool) (k : Nat) : Sp :=
  if (opn || wo) = true ∧ (k = 5 ∨ k = 6) then (if k = 5 ∧ opn ≠ wo then ⟨0, 0⟩ else ⟨1, 10000⟩)
  else ⟨max 1 (((flatS off hei slo pan top bot opn k).lo - (inS ll lh wl wh hl hh ol oh il ih k).hi).tdiv (lostL k opn)), min 10000 (((flatS off hei slo pan top bot opn k).lo - (inS ll lh wl wh hl hh ol oh il ih k).lo).tdiv (lostL k opn))⟩

theorem fieldSp_0 (a b : Value) (w : World) : (Instr.field 38 (.agg #[a, b]) 0).run Try.prog w = .ok a w := by kernel_rfl

theorem lostL_12 (k : Int) (opn : Bool) : lostL k opn = 1 ∨ lostL k opn = 2 := by unfold lostL; split <;> simp

theorem tdiv_bd {x l : Int} (hl : l = 1 ∨ l = 2) (h0 : -100000000 ≤ x) (h1 : x ≤ 100000000) : -100000000 ≤ x.tdiv l ∧ x.tdiv l ≤ 100000000 := by
  rcases hl with rfl | rfl
  · simp only [Int.tdiv_one]
    exact ⟨h0, h1⟩
  · rcases Int.le_total 0 x with h | h
    · rw [Int.tdiv_eq_ediv_of_nonneg h]
      omega
    · have e : x.tdiv 2 = -((-x).tdiv 2) := by rw [Int.neg_tdiv, Int.neg_neg]
      rw [e, Int.tdiv_eq_ediv_of_nonneg (by omega)]
      omega

theorem hold_bd {off hei slo : Int} {pan top bot : List Int} {opn : Bool} {ll lh wl wh hl hh ol oh il ih : Int} {wo : Bool} (G : ShB hei slo pan top bot) (H : GoodWish ll lh wl wh hl hh ol oh il ih) (h2 : 0 ≤ off) (h3 : off ≤ 3000) {k : Nat} (hk : k < 10) : SpB 100000000 (holdL off hei slo pan top bot opn ll lh wl wh hl hh ol oh il ih wo k) := by
  obtain ⟨f0, f1, f2, f3⟩ := flatS_bd (opn := opn) G h2 h3 hk
  obtain ⟨i0, i1, i2, i3⟩ := inS_bd H k
  unfold holdL
  split
  · split <;> exact ⟨by simp only; omega, by simp only; omega, by simp only; omega, by simp only; omega⟩
  · obtain ⟨a0, a1⟩ := tdiv_bd (lostL_12 k opn) (x := (flatS off hei slo pan top bot opn k).lo - (inS ll lh wl wh hl hh ol oh il ih k).hi) (by omega) (by omega)
    obtain ⟨b0, b1⟩ := tdiv_bd (lostL_12 k opn) (x := (flatS off hei slo pan top bot opn k).lo - (inS ll lh wl wh hl hh ol oh il ih k).lo) (by omega) (by omega)
    exact ⟨by simp only; omega, by simp only; omega, by simp only; omega, by simp only; omega⟩

set_option maxRecDepth 100000 in
set_option maxHeartbeats 4000000 in
theorem hold_5tf (tab hei slo off : Int) (pan top bot : List Int) (pa ta ba : Option Addr) (pc tc bc : Nat) (ll lh wl wh hl hh ol oh il ih : Int)  (G : ShB hei slo pan top bot) (H : GoodWish ll lh wl wh hl hh ol oh il ih) (h2 : 0 ≤ off) (h3 : off ≤ 3000)  (w : World) (hp : IRow w pa pan) (ht : IRow w ta top) (hb : IRow w ba bot) :
    Calls Try.prog 53 #[.agg #[.int .i64 tab, .slice pa pan.length pc, .int .i64 hei, .slice ta top.length tc, .slice ba bot.length bc, .int .i64 slo, .bool true, .int .i64 off, .slice ta top.length tc, .slice ba bot.length bc], .agg #[.int .i64 ll, .int .i64 lh, .int .i64 wl, .int .i64 wh, .int .i64 hl, .int .i64 hh, .int .i64 ol, .int .i64 oh, .int .i64 il, .int .i64 ih, .bool false], .int .i64 5] w fun e w' => e = .returned (.agg #[.int .i64 0, .int .i64 0]) ∧ Gr w w' := by
  have gg := (((Gr.al w (.cells #[.int .i64 tab, .slice pa pan.length pc, .int .i64 hei, .slice ta top.length tc, .slice ba bot.length bc, .int .i64 slo, .bool true, .int .i64 off, .slice ta top.length tc, .slice ba bot.length bc] 124)).tr (Gr.al _ (.cells #[.int .i64 ll, .int .i64 lh, .int .i64 wl, .int .i64 wh, .int .i64 hl, .int .i64 hh, .int .i64 ol, .int .i64 oh, .int .i64 il, .int .i64 ih, .bool false] 130))).tr (Gr.al _ (.cells #[.int .i64 0, .int .i64 0] 38))).tr (Gr.al _ (.cells #[.int .i64 1, .int .i64 10000] 38))
  have hX := (((Box.new w [.int .i64 tab, .slice pa pan.length pc, .int .i64 hei, .slice ta top.length tc, .slice ba bot.length bc, .int .i64 slo, .bool true, .int .i64 off, .slice ta top.length tc, .slice ba bot.length bc] 124 w.heap.size rfl).keep (Gr.al _ (.cells #[.int .i64 ll, .int .i64 lh, .int .i64 wl, .int .i64 wh, .int .i64 hl, .int .i64 hh, .int .i64 ol, .int .i64 oh, .int .i64 il, .int .i64 ih, .bool false] 130))).keep (Gr.al _ (.cells #[.int .i64 0, .int .i64 0] 38))).keep (Gr.al _ (.cells #[.int .i64 1, .int .i64 10000] 38))
  have hW := ((Box.new (w.alloc (.cells #[.int .i64 tab, .slice pa pan.length pc, .int .i64 hei, .slice ta top.length tc, .slice ba bot.length bc, .int .i64 slo, .bool true, .int .i64 off, .slice ta top.length tc, .slice ba bot.length bc] 124)) [.int .i64 ll, .int .i64 lh, .int .i64 wl, .int .i64 wh, .int .i64 hl, .int .i64 hh, .int .i64 ol, .int .i64 oh, .int .i64 il, .int .i64 ih, .bool false] 130 (w.heap.size + 1) (by simp)).keep (Gr.al _ (.cells #[.int .i64 0, .int .i64 0] 38))).keep (Gr.al _ (.cells #[.int .i64 1, .int .i64 10000] 38))
  have oR := (Own.new ((w.alloc (.cells #[.int .i64 tab, .slice pa pan.length pc, .int .i64 hei, .slice ta top.length tc, .slice ba bot.length bc, .int .i64 slo, .bool true, .int .i64 off, .slice ta top.length tc, .slice ba bot.length bc] 124)).alloc (.cells #[.int .i64 ll, .int .i64 lh, .int .i64 wl, .int .i64 wh, .int .i64 hl, .int .i64 hh, .int .i64 ol, .int .i64 oh, .int .i64 il, .int .i64 ih, .bool false] 130)) [.int .i64 0, .int .i64 0] 38 (w.heap.size + 1 + 1) (by simp)).keep (Gr.al _ (.cells #[.int .i64 1, .int .i64 10000] 38))
  have hA := Own.new (((w.alloc (.cells #[.int .i64 tab, .slice pa pan.length pc, .int .i64 hei, .slice ta top.length tc, .slice ba bot.length bc, .int .i64 slo, .bool true, .int .i64 off, .slice ta top.length tc, .slice ba bot.length bc] 124)).alloc (.cells #[.int .i64 ll, .int .i64 lh, .int .i64 wl, .int .i64 wh, .int .i64 hl, .int .i64 hh, .int .i64 ol, .int .i64 oh, .int .i64 il, .int .i64 ih, .bool false] 130)).alloc (.cells #[.int .i64 0, .int .i64 0] 38)) [.int .i64 1, .int .i64 10000] 38 (w.heap.size + 1 + 1 + 1) (by simp)
  have q6 := hX.2 6 _ rfl
  have p10 := hW.2 10 _ rfl
  obtain ⟨a0, a1⟩ := hA.1.c2
  obtain ⟨u0, u1⟩ := oR.1.c2
  have z0 := oR.2 0
  have z1 := oR.2 1
  have HP := Lib.hid hp
  have HT := Lib.hid ht
  have HB := Lib.hid hb
  have ob := oR
  clear hp ht hb G H
  go_enter Try.func53, Try.ntmps53
  go_wp2
  have o1 := ((ob.set (i := 0) (v := .int .i64 0) (by simp)).set (i := 1) (v := .int .i64 0) (by simp)).1.c2
  obtain ⟨o10, o11⟩ := o1
  refine bodyPost_ret (v := .agg #[.int .i64 0, .int .i64 0]) (by simp [results, Try.results53, go_sem, o10, o11]) rfl ⟨rfl, ?_⟩
  exact (((Gr.al _ _).tr (Gr.al _ _)).tr (Gr.al _ _)).tr (Gr.al _ _)

set_option maxRecDepth 100000 in
set_option maxHeartbeats 4000000 in
theorem hold_5ft (tab hei slo off : Int) (pan top bot : List Int) (pa ta ba : Option Addr) (pc tc bc : Nat) (ll lh wl wh hl hh ol oh il ih : Int)  (G : ShB hei slo pan top bot) (H : GoodWish ll lh wl wh hl hh ol oh il ih) (h2 : 0 ≤ off) (h3 : off ≤ 3000)  (w : World) (hp : IRow w pa pan) (ht : IRow w ta top) (hb : IRow w ba bot) :
    Calls Try.prog 53 #[.agg #[.int .i64 tab, .slice pa pan.length pc, .int .i64 hei, .slice ta top.length tc, .slice ba bot.length bc, .int .i64 slo, .bool false, .int .i64 off, .slice ta top.length tc, .slice ba bot.length bc], .agg #[.int .i64 ll, .int .i64 lh, .int .i64 wl, .int .i64 wh, .int .i64 hl, .int .i64 hh, .int .i64 ol, .int .i64 oh, .int .i64 il, .int .i64 ih, .bool true], .int .i64 5] w fun e w' => e = .returned (.agg #[.int .i64 0, .int .i64 0]) ∧ Gr w w' := by
  have gg := (((Gr.al w (.cells #[.int .i64 tab, .slice pa pan.length pc, .int .i64 hei, .slice ta top.length tc, .slice ba bot.length bc, .int .i64 slo, .bool false, .int .i64 off, .slice ta top.length tc, .slice ba bot.length bc] 124)).tr (Gr.al _ (.cells #[.int .i64 ll, .int .i64 lh, .int .i64 wl, .int .i64 wh, .int .i64 hl, .int .i64 hh, .int .i64 ol, .int .i64 oh, .int .i64 il, .int .i64 ih, .bool true] 130))).tr (Gr.al _ (.cells #[.int .i64 0, .int .i64 0] 38))).tr (Gr.al _ (.cells #[.int .i64 1, .int .i64 10000] 38))
  have hX := (((Box.new w [.int .i64 tab, .slice pa pan.length pc, .int .i64 hei, .slice ta top.length tc, .slice ba bot.length bc, .int .i64 slo, .bool false, .int .i64 off, .slice ta top.length tc, .slice ba bot.length bc] 124 w.heap.size rfl).keep (Gr.al _ (.cells #[.int .i64 ll, .int .i64 lh, .int .i64 wl, .int .i64 wh, .int .i64 hl, .int .i64 hh, .int .i64 ol, .int .i64 oh, .int .i64 il, .int .i64 ih, .bool true] 130))).keep (Gr.al _ (.cells #[.int .i64 0, .int .i64 0] 38))).keep (Gr.al _ (.cells #[.int .i64 1, .int .i64 10000] 38))
  have hW := ((Box.new (w.alloc (.cells #[.int .i64 tab, .slice pa pan.length pc, .int .i64 hei, .slice ta top.length tc, .slice ba bot.length bc, .int .i64 slo, .bool false, .int .i64 off, .slice ta top.length tc, .slice ba bot.length bc] 124)) [.int .i64 ll, .int .i64 lh, .int .i64 wl, .int .i64 wh, .int .i64 hl, .int .i64 hh, .int .i64 ol, .int .i64 oh, .int .i64 il, .int .i64 ih, .bool true] 130 (w.heap.size + 1) (by simp)).keep (Gr.al _ (.cells #[.int .i64 0, .int .i64 0] 38))).keep (Gr.al _ (.cells #[.int .i64 1, .int .i64 10000] 38))
  have oR := (Own.new ((w.alloc (.cells #[.int .i64 tab, .slice pa pan.length pc, .int .i64 hei, .slice ta top.length tc, .slice ba bot.length bc, .int .i64 slo, .bool false, .int .i64 off, .slice ta top.length tc, .slice ba bot.length bc] 124)).alloc (.cells #[.int .i64 ll, .int .i64 lh, .int .i64 wl, .int .i64 wh, .int .i64 hl, .int .i64 hh, .int .i64 ol, .int .i64 oh, .int .i64 il, .int .i64 ih, .bool true] 130)) [.int .i64 0, .int .i64 0] 38 (w.heap.size + 1 + 1) (by simp)).keep (Gr.al _ (.cells #[.int .i64 1, .int .i64 10000] 38))
  have hA := Own.new (((w.alloc (.cells #[.int .i64 tab, .slice pa pan.length pc, .int .i64 hei, .slice ta top.length tc, .slice ba bot.length bc, .int .i64 slo, .bool false, .int .i64 off, .slice ta top.length tc, .slice ba bot.length bc] 124)).alloc (.cells #[.int .i64 ll, .int .i64 lh, .int .i64 wl, .int .i64 wh, .int .i64 hl, .int .i64 hh, .int .i64 ol, .int .i64 oh, .int .i64 il, .int .i64 ih, .bool true] 130)).alloc (.cells #[.int .i64 0, .int .i64 0] 38)) [.int .i64 1, .int .i64 10000] 38 (w.heap.size + 1 + 1 + 1) (by simp)
  have q6 := hX.2 6 _ rfl
  have p10 := hW.2 10 _ rfl
  obtain ⟨a0, a1⟩ := hA.1.c2
  obtain ⟨u0, u1⟩ := oR.1.c2
  have z0 := oR.2 0
  have z1 := oR.2 1
  have HP := Lib.hid hp
  have HT := Lib.hid ht
  have HB := Lib.hid hb
  have ob := oR
  clear hp ht hb G H
  go_enter Try.func53, Try.ntmps53
  go_wp2
  have o1 := ((ob.set (i := 0) (v := .int .i64 0) (by simp)).set (i := 1) (v := .int .i64 0) (by simp)).1.c2
  obtain ⟨o10, o11⟩ := o1
  refine bodyPost_ret (v := .agg #[.int .i64 0, .int .i64 0]) (by simp [results, Try.results53, go_sem, o10, o11]) rfl ⟨rfl, ?_⟩
  exact (((Gr.al _ _).tr (Gr.al _ _)).tr (Gr.al _ _)).tr (Gr.al _ _)

set_option maxRecDepth 100000 in
set_option maxHeartbeats 4000000 in
theorem hold_5tt (tab hei slo off : Int) (pan top bot : List Int) (pa ta ba : Option Addr) (pc tc bc : Nat) (ll lh wl wh hl hh ol oh il ih : Int)  (G : ShB hei slo pan top bot) (H : GoodWish ll lh wl wh hl hh ol oh il ih) (h2 : 0 ≤ off) (h3 : off ≤ 3000)  (w : World) (hp : IRow w pa pan) (ht : IRow w ta top) (hb : IRow w ba bot) :
    Calls Try.prog 53 #[.agg #[.int .i64 tab, .slice pa pan.length pc, .int .i64 hei, .slice ta top.length tc, .slice ba bot.length bc, .int .i64 slo, .bool true, .int .i64 off, .slice ta top.length tc, .slice ba bot.length bc], .agg #[.int .i64 ll, .int .i64 lh, .int .i64 wl, .int .i64 wh, .int .i64 hl, .int .i64 hh, .int .i64 ol, .int .i64 oh, .int .i64 il, .int .i64 ih, .bool true], .int .i64 5] w fun e w' => e = .returned (.agg #[.int .i64 1, .int .i64 10000]) ∧ Gr w w' := by
  have gg := (((Gr.al w (.cells #[.int .i64 tab, .slice pa pan.length pc, .int .i64 hei, .slice ta top.length tc, .slice ba bot.length bc, .int .i64 slo, .bool true, .int .i64 off, .slice ta top.length tc, .slice ba bot.length bc] 124)).tr (Gr.al _ (.cells #[.int .i64 ll, .int .i64 lh, .int .i64 wl, .int .i64 wh, .int .i64 hl, .int .i64 hh, .int .i64 ol, .int .i64 oh, .int .i64 il, .int .i64 ih, .bool true] 130))).tr (Gr.al _ (.cells #[.int .i64 0, .int .i64 0] 38))).tr (Gr.al _ (.cells #[.int .i64 1, .int .i64 10000] 38))
  have hX := (((Box.new w [.int .i64 tab, .slice pa pan.length pc, .int .i64 hei, .slice ta top.length tc, .slice ba bot.length bc, .int .i64 slo, .bool true, .int .i64 off, .slice ta top.length tc, .slice ba bot.length bc] 124 w.heap.size rfl).keep (Gr.al _ (.cells #[.int .i64 ll, .int .i64 lh, .int .i64 wl, .int .i64 wh, .int .i64 hl, .int .i64 hh, .int .i64 ol, .int .i64 oh, .int .i64 il, .int .i64 ih, .bool true] 130))).keep (Gr.al _ (.cells #[.int .i64 0, .int .i64 0] 38))).keep (Gr.al _ (.cells #[.int .i64 1, .int .i64 10000] 38))
  have hW := ((Box.new (w.alloc (.cells #[.int .i64 tab, .slice pa pan.length pc, .int .i64 hei, .slice ta top.length tc, .slice ba bot.length bc, .int .i64 slo, .bool true, .int .i64 off, .slice ta top.length tc, .slice ba bot.length bc] 124)) [.int .i64 ll, .int .i64 lh, .int .i64 wl, .int .i64 wh, .int .i64 hl, .int .i64 hh, .int .i64 ol, .int .i64 oh, .int .i64 il, .int .i64 ih, .bool true] 130 (w.heap.size + 1) (by simp)).keep (Gr.al _ (.cells #[.int .i64 0, .int .i64 0] 38))).keep (Gr.al _ (.cells #[.int .i64 1, .int .i64 10000] 38))
  have oR := (Own.new ((w.alloc (.cells #[.int .i64 tab, .slice pa pan.length pc, .int .i64 hei, .slice ta top.length tc, .slice ba bot.length bc, .int .i64 slo, .bool true, .int .i64 off, .slice ta top.length tc, .slice ba bot.length bc] 124)).alloc (.cells #[.int .i64 ll, .int .i64 lh, .int .i64 wl, .int .i64 wh, .int .i64 hl, .int .i64 hh, .int .i64 ol, .int .i64 oh, .int .i64 il, .int .i64 ih, .bool true] 130)) [.int .i64 0, .int .i64 0] 38 (w.heap.size + 1 + 1) (by simp)).keep (Gr.al _ (.cells #[.int .i64 1, .int .i64 10000] 38))
  have hA := Own.new (((w.alloc (.cells #[.int .i64 tab, .slice pa pan.length pc, .int .i64 hei, .slice ta top.length tc, .slice ba bot.length bc, .int .i64 slo, .bool true, .int .i64 off, .slice ta top.length tc, .slice ba bot.length bc] 124)).alloc (.cells #[.int .i64 ll, .int .i64 lh, .int .i64 wl, .int .i64 wh, .int .i64 hl, .int .i64 hh, .int .i64 ol, .int .i64 oh, .int .i64 il, .int .i64 ih, .bool true] 130)).alloc (.cells #[.int .i64 0, .int .i64 0] 38)) [.int .i64 1, .int .i64 10000] 38 (w.heap.size + 1 + 1 + 1) (by simp)
  have q6 := hX.2 6 _ rfl
  have p10 := hW.2 10 _ rfl
  obtain ⟨a0, a1⟩ := hA.1.c2
  obtain ⟨u0, u1⟩ := oR.1.c2
  have z0 := oR.2 0
  have z1 := oR.2 1
  have HP := Lib.hid hp
  have HT := Lib.hid ht
  have HB := Lib.hid hb
  have ob := oR
  clear hp ht hb G H
  go_enter Try.func53, Try.ntmps53
  go_wp2
  have o1 := ((ob.set (i := 0) (v := .int .i64 1) (by simp)).set (i := 1) (v := .int .i64 10000) (by simp)).1.c2
  obtain ⟨o10, o11⟩ := o1
  refine bodyPost_ret (v := .agg #[.int .i64 1, .int .i64 10000]) (by simp [results, Try.results53, go_sem, o10, o11]) rfl ⟨rfl, ?_⟩
  exact (((Gr.al _ _).tr (Gr.al _ _)).tr (Gr.al _ _)).tr (Gr.al _ _)

set_option maxRecDepth 100000 in
set_option maxHeartbeats 4000000 in
theorem hold_6tf (tab hei slo off : Int) (pan top bot : List Int) (pa ta ba : Option Addr) (pc tc bc : Nat) (ll lh wl wh hl hh ol oh il ih : Int)  (G : ShB hei slo pan top bot) (H : GoodWish ll lh wl wh hl hh ol oh il ih) (h2 : 0 ≤ off) (h3 : off ≤ 3000)  (w : World) (hp : IRow w pa pan) (ht : IRow w ta top) (hb : IRow w ba bot) :
    Calls Try.prog 53 #[.agg #[.int .i64 tab, .slice pa pan.length pc, .int .i64 hei, .slice ta top.length tc, .slice ba bot.length bc, .int .i64 slo, .bool true, .int .i64 off, .slice ta top.length tc, .slice ba bot.length bc], .agg #[.int .i64 ll, .int .i64 lh, .int .i64 wl, .int .i64 wh, .int .i64 hl, .int .i64 hh, .int .i64 ol, .int .i64 oh, .int .i64 il, .int .i64 ih, .bool false], .int .i64 6] w fun e w' => e = .returned (.agg #[.int .i64 1, .int .i64 10000]) ∧ Gr w w' := by
  have gg := (((Gr.al w (.cells #[.int .i64 tab, .slice pa pan.length pc, .int .i64 hei, .slice ta top.length tc, .slice ba bot.length bc, .int .i64 slo, .bool true, .int .i64 off, .slice ta top.length tc, .slice ba bot.length bc] 124)).tr (Gr.al _ (.cells #[.int .i64 ll, .int .i64 lh, .int .i64 wl, .int .i64 wh, .int .i64 hl, .int .i64 hh, .int .i64 ol, .int .i64 oh, .int .i64 il, .int .i64 ih, .bool false] 130))).tr (Gr.al _ (.cells #[.int .i64 0, .int .i64 0] 38))).tr (Gr.al _ (.cells #[.int .i64 1, .int .i64 10000] 38))
  have hX := (((Box.new w [.int .i64 tab, .slice pa pan.length pc, .int .i64 hei, .slice ta top.length tc, .slice ba bot.length bc, .int .i64 slo, .bool true, .int .i64 off, .slice ta top.length tc, .slice ba bot.length bc] 124 w.heap.size rfl).keep (Gr.al _ (.cells #[.int .i64 ll, .int .i64 lh, .int .i64 wl, .int .i64 wh, .int .i64 hl, .int .i64 hh, .int .i64 ol, .int .i64 oh, .int .i64 il, .int .i64 ih, .bool false] 130))).keep (Gr.al _ (.cells #[.int .i64 0, .int .i64 0] 38))).keep (Gr.al _ (.cells #[.int .i64 1, .int .i64 10000] 38))
  have hW := ((Box.new (w.alloc (.cells #[.int .i64 tab, .slice pa pan.length pc, .int .i64 hei, .slice ta top.length tc, .slice ba bot.length bc, .int .i64 slo, .bool true, .int .i64 off, .slice ta top.length tc, .slice ba bot.length bc] 124)) [.int .i64 ll, .int .i64 lh, .int .i64 wl, .int .i64 wh, .int .i64 hl, .int .i64 hh, .int .i64 ol, .int .i64 oh, .int .i64 il, .int .i64 ih, .bool false] 130 (w.heap.size + 1) (by simp)).keep (Gr.al _ (.cells #[.int .i64 0, .int .i64 0] 38))).keep (Gr.al _ (.cells #[.int .i64 1, .int .i64 10000] 38))
  have oR := (Own.new ((w.alloc (.cells #[.int .i64 tab, .slice pa pan.length pc, .int .i64 hei, .slice ta top.length tc, .slice ba bot.length bc, .int .i64 slo, .bool true, .int .i64 off, .slice ta top.length tc, .slice ba bot.length bc] 124)).alloc (.cells #[.int .i64 ll, .int .i64 lh, .int .i64 wl, .int .i64 wh, .int .i64 hl, .int .i64 hh, .int .i64 ol, .int .i64 oh, .int .i64 il, .int .i64 ih, .bool false] 130)) [.int .i64 0, .int .i64 0] 38 (w.heap.size + 1 + 1) (by simp)).keep (Gr.al _ (.cells #[.int .i64 1, .int .i64 10000] 38))
  have hA := Own.new (((w.alloc (.cells #[.int .i64 tab, .slice pa pan.length pc, .int .i64 hei, .slice ta top.length tc, .slice ba bot.length bc, .int .i64 slo, .bool true, .int .i64 off, .slice ta top.length tc, .slice ba bot.length bc] 124)).alloc (.cells #[.int .i64 ll, .int .i64 lh, .int .i64 wl, .int .i64 wh, .int .i64 hl, .int .i64 hh, .int .i64 ol, .int .i64 oh, .int .i64 il, .int .i64 ih, .bool false] 130)).alloc (.cells #[.int .i64 0, .int .i64 0] 38)) [.int .i64 1, .int .i64 10000] 38 (w.heap.size + 1 + 1 + 1) (by simp)
  have q6 := hX.2 6 _ rfl
  have p10 := hW.2 10 _ rfl
  obtain ⟨a0, a1⟩ := hA.1.c2
  obtain ⟨u0, u1⟩ := oR.1.c2
  have z0 := oR.2 0
  have z1 := oR.2 1
  have HP := Lib.hid hp
  have HT := Lib.hid ht
  have HB := Lib.hid hb
  have ob := oR
  clear hp ht hb G H
  go_enter Try.func53, Try.ntmps53
  go_wp2
  have o1 := ((ob.set (i := 0) (v := .int .i64 1) (by simp)).set (i := 1) (v := .int .i64 10000) (by simp)).1.c2
  obtain ⟨o10, o11⟩ := o1
  refine bodyPost_ret (v := .agg #[.int .i64 1, .int .i64 10000]) (by simp [results, Try.results53, go_sem, o10, o11]) rfl ⟨rfl, ?_⟩
  exact (((Gr.al _ _).tr (Gr.al _ _)).tr (Gr.al _ _)).tr (Gr.al _ _)

set_option maxRecDepth 100000 in
set_option maxHeartbeats 4000000 in
theorem hold_6tt (tab hei slo off : Int) (pan top bot : List Int) (pa ta ba : Option Addr) (pc tc bc : Nat) (ll lh wl wh hl hh ol oh il ih : Int)  (G : ShB hei slo pan top bot) (H : GoodWish ll lh wl wh hl hh ol oh il ih) (h2 : 0 ≤ off) (h3 : off ≤ 3000)  (w : World) (hp : IRow w pa pan) (ht : IRow w ta top) (hb : IRow w ba bot) :
    Calls Try.prog 53 #[.agg #[.int .i64 tab, .slice pa pan.length pc, .int .i64 hei, .slice ta top.length tc, .slice ba bot.length bc, .int .i64 slo, .bool true, .int .i64 off, .slice ta top.length tc, .slice ba bot.length bc], .agg #[.int .i64 ll, .int .i64 lh, .int .i64 wl, .int .i64 wh, .int .i64 hl, .int .i64 hh, .int .i64 ol, .int .i64 oh, .int .i64 il, .int .i64 ih, .bool true], .int .i64 6] w fun e w' => e = .returned (.agg #[.int .i64 1, .int .i64 10000]) ∧ Gr w w' := by
  have gg := (((Gr.al w (.cells #[.int .i64 tab, .slice pa pan.length pc, .int .i64 hei, .slice ta top.length tc, .slice ba bot.length bc, .int .i64 slo, .bool true, .int .i64 off, .slice ta top.length tc, .slice ba bot.length bc] 124)).tr (Gr.al _ (.cells #[.int .i64 ll, .int .i64 lh, .int .i64 wl, .int .i64 wh, .int .i64 hl, .int .i64 hh, .int .i64 ol, .int .i64 oh, .int .i64 il, .int .i64 ih, .bool true] 130))).tr (Gr.al _ (.cells #[.int .i64 0, .int .i64 0] 38))).tr (Gr.al _ (.cells #[.int .i64 1, .int .i64 10000] 38))
  have hX := (((Box.new w [.int .i64 tab, .slice pa pan.length pc, .int .i64 hei, .slice ta top.length tc, .slice ba bot.length bc, .int .i64 slo, .bool true, .int .i64 off, .slice ta top.length tc, .slice ba bot.length bc] 124 w.heap.size rfl).keep (Gr.al _ (.cells #[.int .i64 ll, .int .i64 lh, .int .i64 wl, .int .i64 wh, .int .i64 hl, .int .i64 hh, .int .i64 ol, .int .i64 oh, .int .i64 il, .int .i64 ih, .bool true] 130))).keep (Gr.al _ (.cells #[.int .i64 0, .int .i64 0] 38))).keep (Gr.al _ (.cells #[.int .i64 1, .int .i64 10000] 38))
  have hW := ((Box.new (w.alloc (.cells #[.int .i64 tab, .slice pa pan.length pc, .int .i64 hei, .slice ta top.length tc, .slice ba bot.length bc, .int .i64 slo, .bool true, .int .i64 off, .slice ta top.length tc, .slice ba bot.length bc] 124)) [.int .i64 ll, .int .i64 lh, .int .i64 wl, .int .i64 wh, .int .i64 hl, .int .i64 hh, .int .i64 ol, .int .i64 oh, .int .i64 il, .int .i64 ih, .bool true] 130 (w.heap.size + 1) (by simp)).keep (Gr.al _ (.cells #[.int .i64 0, .int .i64 0] 38))).keep (Gr.al _ (.cells #[.int .i64 1, .int .i64 10000] 38))
  have oR := (Own.new ((w.alloc (.cells #[.int .i64 tab, .slice pa pan.length pc, .int .i64 hei, .slice ta top.length tc, .slice ba bot.length bc, .int .i64 slo, .bool true, .int .i64 off, .slice ta top.length tc, .slice ba bot.length bc] 124)).alloc (.cells #[.int .i64 ll, .int .i64 lh, .int .i64 wl, .int .i64 wh, .int .i64 hl, .int .i64 hh, .int .i64 ol, .int .i64 oh, .int .i64 il, .int .i64 ih, .bool true] 130)) [.int .i64 0, .int .i64 0] 38 (w.heap.size + 1 + 1) (by simp)).keep (Gr.al _ (.cells #[.int .i64 1, .int .i64 10000] 38))
  have hA := Own.new (((w.alloc (.cells #[.int .i64 tab, .slice pa pan.length pc, .int .i64 hei, .slice ta top.length tc, .slice ba bot.length bc, .int .i64 slo, .bool true, .int .i64 off, .slice ta top.length tc, .slice ba bot.length bc] 124)).alloc (.cells #[.int .i64 ll, .int .i64 lh, .int .i64 wl, .int .i64 wh, .int .i64 hl, .int .i64 hh, .int .i64 ol, .int .i64 oh, .int .i64 il, .int .i64 ih, .bool true] 130)).alloc (.cells #[.int .i64 0, .int .i64 0] 38)) [.int .i64 1, .int .i64 10000] 38 (w.heap.size + 1 + 1 + 1) (by simp)
  have q6 := hX.2 6 _ rfl
  have p10 := hW.2 10 _ rfl
  obtain ⟨a0, a1⟩ := hA.1.c2
  obtain ⟨u0, u1⟩ := oR.1.c2
  have z0 := oR.2 0
  have z1 := oR.2 1
  have HP := Lib.hid hp
  have HT := Lib.hid ht
  have HB := Lib.hid hb
  have ob := oR
  clear hp ht hb G H
  go_enter Try.func53, Try.ntmps53
  go_wp2
  have o1 := ((ob.set (i := 0) (v := .int .i64 1) (by simp)).set (i := 1) (v := .int .i64 10000) (by simp)).1.c2
  obtain ⟨o10, o11⟩ := o1
  refine bodyPost_ret (v := .agg #[.int .i64 1, .int .i64 10000]) (by simp [results, Try.results53, go_sem, o10, o11]) rfl ⟨rfl, ?_⟩
  exact (((Gr.al _ _).tr (Gr.al _ _)).tr (Gr.al _ _)).tr (Gr.al _ _)

set_option maxRecDepth 100000 in
set_option maxHeartbeats 4000000 in
theorem hold_6ft (tab hei slo off : Int) (pan top bot : List Int) (pa ta ba : Option Addr) (pc tc bc : Nat) (ll lh wl wh hl hh ol oh il ih : Int)  (G : ShB hei slo pan top bot) (H : GoodWish ll lh wl wh hl hh ol oh il ih) (h2 : 0 ≤ off) (h3 : off ≤ 3000)  (w : World) (hp : IRow w pa pan) (ht : IRow w ta top) (hb : IRow w ba bot) :
    Calls Try.prog 53 #[.agg #[.int .i64 tab, .slice pa pan.length pc, .int .i64 hei, .slice ta top.length tc, .slice ba bot.length bc, .int .i64 slo, .bool false, .int .i64 off, .slice ta top.length tc, .slice ba bot.length bc], .agg #[.int .i64 ll, .int .i64 lh, .int .i64 wl, .int .i64 wh, .int .i64 hl, .int .i64 hh, .int .i64 ol, .int .i64 oh, .int .i64 il, .int .i64 ih, .bool true], .int .i64 6] w fun e w' => e = .returned (.agg #[.int .i64 1, .int .i64 10000]) ∧ Gr w w' := by
  have gg := (((Gr.al w (.cells #[.int .i64 tab, .slice pa pan.length pc, .int .i64 hei, .slice ta top.length tc, .slice ba bot.length bc, .int .i64 slo, .bool false, .int .i64 off, .slice ta top.length tc, .slice ba bot.length bc] 124)).tr (Gr.al _ (.cells #[.int .i64 ll, .int .i64 lh, .int .i64 wl, .int .i64 wh, .int .i64 hl, .int .i64 hh, .int .i64 ol, .int .i64 oh, .int .i64 il, .int .i64 ih, .bool true] 130))).tr (Gr.al _ (.cells #[.int .i64 0, .int .i64 0] 38))).tr (Gr.al _ (.cells #[.int .i64 1, .int .i64 10000] 38))
  have hX := (((Box.new w [.int .i64 tab, .slice pa pan.length pc, .int .i64 hei, .slice ta top.length tc, .slice ba bot.length bc, .int .i64 slo, .bool false, .int .i64 off, .slice ta top.length tc, .slice ba bot.length bc] 124 w.heap.size rfl).keep (Gr.al _ (.cells #[.int .i64 ll, .int .i64 lh, .int .i64 wl, .int .i64 wh, .int .i64 hl, .int .i64 hh, .int .i64 ol, .int .i64 oh, .int .i64 il, .int .i64 ih, .bool true] 130))).keep (Gr.al _ (.cells #[.int .i64 0, .int .i64 0] 38))).keep (Gr.al _ (.cells #[.int .i64 1, .int .i64 10000] 38))
  have hW := ((Box.new (w.alloc (.cells #[.int .i64 tab, .slice pa pan.length pc, .int .i64 hei, .slice ta top.length tc, .slice ba bot.length bc, .int .i64 slo, .bool false, .int .i64 off, .slice ta top.length tc, .slice ba bot.length bc] 124)) [.int .i64 ll, .int .i64 lh, .int .i64 wl, .int .i64 wh, .int .i64 hl, .int .i64 hh, .int .i64 ol, .int .i64 oh, .int .i64 il, .int .i64 ih, .bool true] 130 (w.heap.size + 1) (by simp)).keep (Gr.al _ (.cells #[.int .i64 0, .int .i64 0] 38))).keep (Gr.al _ (.cells #[.int .i64 1, .int .i64 10000] 38))
  have oR := (Own.new ((w.alloc (.cells #[.int .i64 tab, .slice pa pan.length pc, .int .i64 hei, .slice ta top.length tc, .slice ba bot.length bc, .int .i64 slo, .bool false, .int .i64 off, .slice ta top.length tc, .slice ba bot.length bc] 124)).alloc (.cells #[.int .i64 ll, .int .i64 lh, .int .i64 wl, .int .i64 wh, .int .i64 hl, .int .i64 hh, .int .i64 ol, .int .i64 oh, .int .i64 il, .int .i64 ih, .bool true] 130)) [.int .i64 0, .int .i64 0] 38 (w.heap.size + 1 + 1) (by simp)).keep (Gr.al _ (.cells #[.int .i64 1, .int .i64 10000] 38))
  have hA := Own.new (((w.alloc (.cells #[.int .i64 tab, .slice pa pan.length pc, .int .i64 hei, .slice ta top.length tc, .slice ba bot.length bc, .int .i64 slo, .bool false, .int .i64 off, .slice ta top.length tc, .slice ba bot.length bc] 124)).alloc (.cells #[.int .i64 ll, .int .i64 lh, .int .i64 wl, .int .i64 wh, .int .i64 hl, .int .i64 hh, .int .i64 ol, .int .i64 oh, .int .i64 il, .int .i64 ih, .bool true] 130)).alloc (.cells #[.int .i64 0, .int .i64 0] 38)) [.int .i64 1, .int .i64 10000] 38 (w.heap.size + 1 + 1 + 1) (by simp)
  have q6 := hX.2 6 _ rfl
  have p10 := hW.2 10 _ rfl
  obtain ⟨a0, a1⟩ := hA.1.c2
  obtain ⟨u0, u1⟩ := oR.1.c2
  have z0 := oR.2 0
  have z1 := oR.2 1
  have HP := Lib.hid hp
  have HT := Lib.hid ht
  have HB := Lib.hid hb
  have ob := oR
  clear hp ht hb G H
  go_enter Try.func53, Try.ntmps53
  go_wp2
  have o1 := ((ob.set (i := 0) (v := .int .i64 1) (by simp)).set (i := 1) (v := .int .i64 10000) (by simp)).1.c2
  obtain ⟨o10, o11⟩ := o1
  refine bodyPost_ret (v := .agg #[.int .i64 1, .int .i64 10000]) (by simp [results, Try.results53, go_sem, o10, o11]) rfl ⟨rfl, ?_⟩
  exact (((Gr.al _ _).tr (Gr.al _ _)).tr (Gr.al _ _)).tr (Gr.al _ _)

set_option maxRecDepth 100000 in
set_option maxHeartbeats 4000000 in
theorem hold_ff (tab hei slo off : Int) (pan top bot : List Int) (pa ta ba : Option Addr) (pc tc bc : Nat) (ll lh wl wh hl hh ol oh il ih : Int) (k : Nat) (hk : k < 10) (G : ShB hei slo pan top bot) (H : GoodWish ll lh wl wh hl hh ol oh il ih) (h2 : 0 ≤ off) (h3 : off ≤ 3000)  (w : World) (hp : IRow w pa pan) (ht : IRow w ta top) (hb : IRow w ba bot) :
    Calls Try.prog 53 #[.agg #[.int .i64 tab, .slice pa pan.length pc, .int .i64 hei, .slice ta top.length tc, .slice ba bot.length bc, .int .i64 slo, .bool false, .int .i64 off, .slice ta top.length tc, .slice ba bot.length bc], .agg #[.int .i64 ll, .int .i64 lh, .int .i64 wl, .int .i64 wh, .int .i64 hl, .int .i64 hh, .int .i64 ol, .int .i64 oh, .int .i64 il, .int .i64 ih, .bool false], .int .i64 k] w fun e w' => e = .returned (.agg #[.int .i64 (max 1 (((flatS off hei slo pan top bot false k).lo - (inS ll lh wl wh hl hh ol oh il ih k).hi).tdiv (lostL k false))), .int .i64 (min 10000 (((flatS off hei slo pan top bot false k).lo - (inS ll lh wl wh hl hh ol oh il ih k).lo).tdiv (lostL k false)))]) ∧ Gr w w' := by
  have gg := (((Gr.al w (.cells #[.int .i64 tab, .slice pa pan.length pc, .int .i64 hei, .slice ta top.length tc, .slice ba bot.length bc, .int .i64 slo, .bool false, .int .i64 off, .slice ta top.length tc, .slice ba bot.length bc] 124)).tr (Gr.al _ (.cells #[.int .i64 ll, .int .i64 lh, .int .i64 wl, .int .i64 wh, .int .i64 hl, .int .i64 hh, .int .i64 ol, .int .i64 oh, .int .i64 il, .int .i64 ih, .bool false] 130))).tr (Gr.al _ (.cells #[.int .i64 0, .int .i64 0] 38))).tr (Gr.al _ (.cells #[.int .i64 1, .int .i64 10000] 38))
  have hX := (((Box.new w [.int .i64 tab, .slice pa pan.length pc, .int .i64 hei, .slice ta top.length tc, .slice ba bot.length bc, .int .i64 slo, .bool false, .int .i64 off, .slice ta top.length tc, .slice ba bot.length bc] 124 w.heap.size rfl).keep (Gr.al _ (.cells #[.int .i64 ll, .int .i64 lh, .int .i64 wl, .int .i64 wh, .int .i64 hl, .int .i64 hh, .int .i64 ol, .int .i64 oh, .int .i64 il, .int .i64 ih, .bool false] 130))).keep (Gr.al _ (.cells #[.int .i64 0, .int .i64 0] 38))).keep (Gr.al _ (.cells #[.int .i64 1, .int .i64 10000] 38))
  have hW := ((Box.new (w.alloc (.cells #[.int .i64 tab, .slice pa pan.length pc, .int .i64 hei, .slice ta top.length tc, .slice ba bot.length bc, .int .i64 slo, .bool false, .int .i64 off, .slice ta top.length tc, .slice ba bot.length bc] 124)) [.int .i64 ll, .int .i64 lh, .int .i64 wl, .int .i64 wh, .int .i64 hl, .int .i64 hh, .int .i64 ol, .int .i64 oh, .int .i64 il, .int .i64 ih, .bool false] 130 (w.heap.size + 1) (by simp)).keep (Gr.al _ (.cells #[.int .i64 0, .int .i64 0] 38))).keep (Gr.al _ (.cells #[.int .i64 1, .int .i64 10000] 38))
  have oR := (Own.new ((w.alloc (.cells #[.int .i64 tab, .slice pa pan.length pc, .int .i64 hei, .slice ta top.length tc, .slice ba bot.length bc, .int .i64 slo, .bool false, .int .i64 off, .slice ta top.length tc, .slice ba bot.length bc] 124)).alloc (.cells #[.int .i64 ll, .int .i64 lh, .int .i64 wl, .int .i64 wh, .int .i64 hl, .int .i64 hh, .int .i64 ol, .int .i64 oh, .int .i64 il, .int .i64 ih, .bool false] 130)) [.int .i64 0, .int .i64 0] 38 (w.heap.size + 1 + 1) (by simp)).keep (Gr.al _ (.cells #[.int .i64 1, .int .i64 10000] 38))
  have hA := Own.new (((w.alloc (.cells #[.int .i64 tab, .slice pa pan.length pc, .int .i64 hei, .slice ta top.length tc, .slice ba bot.length bc, .int .i64 slo, .bool false, .int .i64 off, .slice ta top.length tc, .slice ba bot.length bc] 124)).alloc (.cells #[.int .i64 ll, .int .i64 lh, .int .i64 wl, .int .i64 wh, .int .i64 hl, .int .i64 hh, .int .i64 ol, .int .i64 oh, .int .i64 il, .int .i64 ih, .bool false] 130)).alloc (.cells #[.int .i64 0, .int .i64 0] 38)) [.int .i64 1, .int .i64 10000] 38 (w.heap.size + 1 + 1 + 1) (by simp)
  have q6 := hX.2 6 _ rfl
  have p10 := hW.2 10 _ rfl
  have HG := Lib.hid G
  have HH := Lib.hid H
  obtain ⟨f0, f1, f2, f3⟩ := flatS_bd (opn := false) G h2 h3 hk
  obtain ⟨i0, i1, i2, i3⟩ := inS_bd H k
  obtain ⟨m0, m1⟩ := tdiv_bd (lostL_12 k false) (x := (flatS off hei slo pan top bot false k).lo - (inS ll lh wl wh hl hh ol oh il ih k).hi) (by omega) (by omega)
  obtain ⟨r0, r1⟩ := tdiv_bd (lostL_12 k false) (x := (flatS off hei slo pan top bot false k).lo - (inS ll lh wl wh hl hh ol oh il ih k).lo) (by omega) (by omega)
  have hz2 : ¬ lostL k false = 0 := by rcases lostL_12 k false with e | e <;> rw [e] <;> decide
  clear G H
  go_enter Try.func53, Try.ntmps53
  go_upto_region 6 with fail
  clear q6 p10
  refine wp_abs (fun W => Gr w W ∧ Box W w.heap.size [.int .i64 tab, .slice pa pan.length pc, .int .i64 hei, .slice ta top.length tc, .slice ba bot.length bc, .int .i64 slo, .bool false, .int .i64 off, .slice ta top.length tc, .slice ba bot.length bc] ∧ Box W (w.heap.size + 1) [.int .i64 ll, .int .i64 lh, .int .i64 wl, .int .i64 wh, .int .i64 hl, .int .i64 hh, .int .i64 ol, .int .i64 oh, .int .i64 il, .int .i64 ih, .bool false] ∧ Own W (w.heap.size + 1 + 1) [.int .i64 0, .int .i64 0] ∧ Own W (w.heap.size + 1 + 1 + 1) [.int .i64 1, .int .i64 10000]) ⟨gg, hX, hW, oR, hA⟩ ?_
  clear gg hX hW oR hA
  rintro W ⟨gg, hX, hW, oR, hA⟩
  have oR0 := oR
  have hA0 := hA
  refine (show (∀ s : Nat → Value, Code.wp Try.prog _ _ ⟨#[s 0, s 1, .int .i64 k, .pointer (some ⟨w.heap.size, 0, none⟩), .pointer (some ⟨(w.heap.size + 1), 0, none⟩), s 5, .pointer (some ⟨(w.heap.size + 1 + 1), 0, none⟩), .pointer (some ⟨(w.heap.size + 1 + 1 + 1), 0, none⟩), undef, undef, undef, s 11, s 12, s 13, s 14, s 15, s 16, s 17, s 18, s 19, s 20, s 21, s 22, s 23, s 24, s 25, s 26, s 27, s 28, s 29, s 30, s 31, s 32, s 33, s 34, s 35, s 36, s 37, s 38, s 39, s 40, undef, undef, undef, undef, undef, undef, undef, undef, undef, undef, undef, undef, undef, undef, undef, undef, undef, undef, undef, undef, undef, undef, undef, undef, undef, undef], []⟩ _) → _ from fun h => h ((fun l : List Value => fun i => l.getD i undef) [_, _, undef, undef, undef, _, undef, undef, undef, undef, undef, _, _, _, _, _, _, _, _, _, _, _, _, _, _, _, _, _, _, _, _, _, _, _, _, _, _, _, _, _, _])) ?_
  intro s
  dsimp only
  refine wp_region_facts 11 [(2, 0), (2, 1), (3, 2), (6, 4), (6, 5), (9, 7), (9, 8)] (fun x => ⟨#[s 0, s 1, .int .i64 k, .pointer (some ⟨w.heap.size, 0, none⟩), .pointer (some ⟨(w.heap.size + 1), 0, none⟩), s 5, .pointer (some ⟨(w.heap.size + 1 + 1), 0, none⟩), .pointer (some ⟨(w.heap.size + 1 + 1 + 1), 0, none⟩), undef, undef, x 10, s 11, s 12, s 13, s 14, s 15, s 16, s 17, s 18, s 19, s 20, s 21, s 22, s 23, s 24, s 25, s 26, s 27, s 28, s 29, s 30, s 31, s 32, s 33, s 34, s 35, s 36, s 37, s 38, s 39, s 40, x 0, x 1, x 2, x 3, x 4, x 5, x 6, x 7, x 8, x 9, undef, undef, undef, undef, undef, undef, undef, undef, undef, undef, undef, undef, undef, undef, undef, undef], []⟩) (fun _ => undef) [fun _ x => x = .agg #[.int .i64 tab, .slice pa pan.length pc, .int .i64 hei, .slice ta top.length tc, .slice ba bot.length bc, .int .i64 slo, .bool false, .int .i64 off, .slice ta top.length tc, .slice ba bot.length bc], fun _ x => x = .int .i64 k, fun _ x => x = .agg #[.int .i64 (flatS off hei slo pan top bot false k).lo, .int .i64 (flatS off hei slo pan top bot false k).hi], fun _ x => x = .int .i64 (flatS off hei slo pan top bot false k).lo, fun _ x => x = .agg #[.int .i64 tab, .slice pa pan.length pc, .int .i64 hei, .slice ta top.length tc, .slice ba bot.length bc, .int .i64 slo, .bool false, .int .i64 off, .slice ta top.length tc, .slice ba bot.length bc], fun _ x => x = .int .i64 k, fun _ x => x = .int .i64 (lostL k false), fun _ x => x = .agg #[.int .i64 ll, .int .i64 lh, .int .i64 wl, .int .i64 wh, .int .i64 hl, .int .i64 hh, .int .i64 ol, .int .i64 oh, .int .i64 il, .int .i64 ih, .bool false], fun _ x => x = .int .i64 k, fun _ x => x = .agg #[.int .i64 (inS ll lh wl wh hl hh ol oh il ih k).lo, .int .i64 (inS ll lh wl wh hl hh ol oh il ih k).hi], fun v x => ∃ b, x = .pointer (some ⟨b, 0, none⟩) ∧ W.heap.size ≤ b ∧ Own v b [.int .i64 0, .int .i64 0]] (by rfl) (by kernel_rfl) (by kernel_rfl) (by kernel_rfl) (stays_cons (Stays.eq _) (stays_cons (Stays.eq _) (stays_cons (Stays.eq _) (stays_cons (Stays.eq _) (stays_cons (Stays.eq _) (stays_cons (Stays.eq _) (stays_cons (Stays.eq _) (stays_cons (Stays.eq _) (stays_cons (Stays.eq _) (stays_cons (Stays.eq _) (stays_cons (fun v v' x g ⟨b, e, h, o⟩ => ⟨b, e, h, o.keep g⟩) stays_nil))))))))))) ?step6 ?fin6
  case step6 =>
    rintro i hi x v gv hd K hK
    have hi8 : i = 0 ∨ i = 1 ∨ i = 2 ∨ i = 3 ∨ i = 4 ∨ i = 5 ∨ i = 6 ∨ i = 7 ∨ i = 8 ∨ i = 9 ∨ i = 10 := by omega
    rcases hi8 with rfl | rfl | rfl | rfl | rfl | rfl | rfl | rfl | rfl | rfl | rfl
    · show wpOp Try.prog _ _ 0 K (⟨#[s 0, s 1, .int .i64 k, .pointer (some ⟨w.heap.size, 0, none⟩), .pointer (some ⟨(w.heap.size + 1), 0, none⟩), s 5, .pointer (some ⟨(w.heap.size + 1 + 1), 0, none⟩), .pointer (some ⟨(w.heap.size + 1 + 1 + 1), 0, none⟩), undef, undef, x 10, s 11, s 12, s 13, s 14, s 15, s 16, s 17, s 18, s 19, s 20, s 21, s 22, s 23, s 24, s 25, s 26, s 27, s 28, s 29, s 30, s 31, s 32, s 33, s 34, s 35, s 36, s 37, s 38, s 39, s 40, x 0, x 1, x 2, x 3, x 4, x 5, x 6, x 7, x 8, x 9, undef, undef, undef, undef, undef, undef, undef, undef, undef, undef, undef, undef, undef, undef, undef, undef], []⟩ : Act) v
      refine wpOp_step rfl (fun K' hK' => ?_)
      rw [if_pos (by rfl)]
      refine wp_load_mid 124 _ rfl w.heap.size 0 (by rfl) [.int .i64 tab, .slice pa pan.length pc, .int .i64 hei, .slice ta top.length tc, .slice ba bot.length bc, .int .i64 slo, .bool false, .int .i64 off, .slice ta top.length tc, .slice ba bot.length bc] _ (fun j u hu => by rw [Nat.zero_add]; exact (hX.keep gv).2 j u hu) Try.underlying124 rfl (by kernel_rfl) ?_
      exact hK' _ _ (hK _ _ (Below.refl _ _) (at_of rfl (rfl)))
    · show wpOp Try.prog _ _ 1 K (⟨#[s 0, s 1, .int .i64 k, .pointer (some ⟨w.heap.size, 0, none⟩), .pointer (some ⟨(w.heap.size + 1), 0, none⟩), s 5, .pointer (some ⟨(w.heap.size + 1 + 1), 0, none⟩), .pointer (some ⟨(w.heap.size + 1 + 1 + 1), 0, none⟩), undef, undef, x 10, s 11, s 12, s 13, s 14, s 15, s 16, s 17, s 18, s 19, s 20, s 21, s 22, s 23, s 24, s 25, s 26, s 27, s 28, s 29, s 30, s 31, s 32, s 33, s 34, s 35, s 36, s 37, s 38, s 39, s 40, x 0, x 1, x 2, x 3, x 4, x 5, x 6, x 7, x 8, x 9, undef, undef, undef, undef, undef, undef, undef, undef, undef, undef, undef, undef, undef, undef, undef, undef], []⟩ : Act) v
      refine wpOp_step rfl (fun K' hK' => ?_)
      go_simp
      exact hK' _ _ (hK _ _ (Below.refl _ _) (at_of rfl (rfl)))
    · obtain ⟨x, rfl⟩ := upd_of (show x 0 = .agg #[.int .i64 tab, .slice pa pan.length pc, .int .i64 hei, .slice ta top.length tc, .slice ba bot.length bc, .int .i64 slo, .bool false, .int .i64 off, .slice ta top.length tc, .slice ba bot.length bc] from hd 0 _ (by simp) rfl)
      obtain ⟨x, rfl⟩ := upd_of (show x 1 = .int .i64 k from hd 1 _ (by simp) rfl)
      show wpOp Try.prog _ _ 2 K (⟨#[s 0, s 1, .int .i64 k, .pointer (some ⟨w.heap.size, 0, none⟩), .pointer (some ⟨(w.heap.size + 1), 0, none⟩), s 5, .pointer (some ⟨(w.heap.size + 1 + 1), 0, none⟩), .pointer (some ⟨(w.heap.size + 1 + 1 + 1), 0, none⟩), undef, undef, x 10, s 11, s 12, s 13, s 14, s 15, s 16, s 17, s 18, s 19, s 20, s 21, s 22, s 23, s 24, s 25, s 26, s 27, s 28, s 29, s 30, s 31, s 32, s 33, s 34, s 35, s 36, s 37, s 38, s 39, s 40, .agg #[.int .i64 tab, .slice pa pan.length pc, .int .i64 hei, .slice ta top.length tc, .slice ba bot.length bc, .int .i64 slo, .bool false, .int .i64 off, .slice ta top.length tc, .slice ba bot.length bc], .int .i64 k, x 2, x 3, x 4, x 5, x 6, x 7, x 8, x 9, undef, undef, undef, undef, undef, undef, undef, undef, undef, undef, undef, undef, undef, undef, undef, undef], []⟩ : Act) v
      refine wpOp_step rfl (fun K' hK' => ?_)
      go_simp
      refine (flatS_all _ _ _ _ _ _ _ _ _ _ _ _ _ _ HG.out h2 h3 k hk v (hp.grow (gg.tr gv)) (ht.grow (gg.tr gv)) (hb.grow (gg.tr gv))).mono ?_
      rintro e v' ⟨rfl, hg⟩
      exact hK' _ _ (hK _ _ hg (at_of rfl (rfl)))
    · obtain ⟨x, rfl⟩ := upd_of (show x 2 = .agg #[.int .i64 (flatS off hei slo pan top bot false k).lo, .int .i64 (flatS off hei slo pan top bot false k).hi] from hd 2 _ (by simp) rfl)
      show wpOp Try.prog _ _ 3 K (⟨#[s 0, s 1, .int .i64 k, .pointer (some ⟨w.heap.size, 0, none⟩), .pointer (some ⟨(w.heap.size + 1), 0, none⟩), s 5, .pointer (some ⟨(w.heap.size + 1 + 1), 0, none⟩), .pointer (some ⟨(w.heap.size + 1 + 1 + 1), 0, none⟩), undef, undef, x 10, s 11, s 12, s 13, s 14, s 15, s 16, s 17, s 18, s 19, s 20, s 21, s 22, s 23, s 24, s 25, s 26, s 27, s 28, s 29, s 30, s 31, s 32, s 33, s 34, s 35, s 36, s 37, s 38, s 39, s 40, x 0, x 1, .agg #[.int .i64 (flatS off hei slo pan top bot false k).lo, .int .i64 (flatS off hei slo pan top bot false k).hi], x 3, x 4, x 5, x 6, x 7, x 8, x 9, undef, undef, undef, undef, undef, undef, undef, undef, undef, undef, undef, undef, undef, undef, undef, undef], []⟩ : Act) v
      refine wpOp_step rfl (fun K' hK' => ?_)
      have q := fieldSp_0 (.int .i64 (flatS off hei slo pan top bot false k).lo) (.int .i64 (flatS off hei slo pan top bot false k).hi) v
      go_simp
      exact hK' _ _ (hK _ _ (Below.refl _ _) (at_of rfl (rfl)))
    · show wpOp Try.prog _ _ 4 K (⟨#[s 0, s 1, .int .i64 k, .pointer (some ⟨w.heap.size, 0, none⟩), .pointer (some ⟨(w.heap.size + 1), 0, none⟩), s 5, .pointer (some ⟨(w.heap.size + 1 + 1), 0, none⟩), .pointer (some ⟨(w.heap.size + 1 + 1 + 1), 0, none⟩), undef, undef, x 10, s 11, s 12, s 13, s 14, s 15, s 16, s 17, s 18, s 19, s 20, s 21, s 22, s 23, s 24, s 25, s 26, s 27, s 28, s 29, s 30, s 31, s 32, s 33, s 34, s 35, s 36, s 37, s 38, s 39, s 40, x 0, x 1, x 2, x 3, x 4, x 5, x 6, x 7, x 8, x 9, undef, undef, undef, undef, undef, undef, undef, undef, undef, undef, undef, undef, undef, undef, undef, undef], []⟩ : Act) v
      refine wpOp_step rfl (fun K' hK' => ?_)
      rw [if_pos (by rfl)]
      refine wp_load_mid 124 _ rfl w.heap.size 0 (by rfl) [.int .i64 tab, .slice pa pan.length pc, .int .i64 hei, .slice ta top.length tc, .slice ba bot.length bc, .int .i64 slo, .bool false, .int .i64 off, .slice ta top.length tc, .slice ba bot.length bc] _ (fun j u hu => by rw [Nat.zero_add]; exact (hX.keep gv).2 j u hu) Try.underlying124 rfl (by kernel_rfl) ?_
      exact hK' _ _ (hK _ _ (Below.refl _ _) (at_of rfl (rfl)))
    · show wpOp Try.prog _ _ 5 K (⟨#[s 0, s 1, .int .i64 k, .pointer (some ⟨w.heap.size, 0, none⟩), .pointer (some ⟨(w.heap.size + 1), 0, none⟩), s 5, .pointer (some ⟨(w.heap.size + 1 + 1), 0, none⟩), .pointer (some ⟨(w.heap.size + 1 + 1 + 1), 0, none⟩), undef, undef, x 10, s 11, s 12, s 13, s 14, s 15, s 16, s 17, s 18, s 19, s 20, s 21, s 22, s 23, s 24, s 25, s 26, s 27, s 28, s 29, s 30, s 31, s 32, s 33, s 34, s 35, s 36, s 37, s 38, s 39, s 40, x 0, x 1, x 2, x 3, x 4, x 5, x 6, x 7, x 8, x 9, undef, undef, undef, undef, undef, undef, undef, undef, undef, undef, undef, undef, undef, undef, undef, undef], []⟩ : Act) v
      refine wpOp_step rfl (fun K' hK' => ?_)
      go_simp
      exact hK' _ _ (hK _ _ (Below.refl _ _) (at_of rfl (rfl)))
    · obtain ⟨x, rfl⟩ := upd_of (show x 4 = .agg #[.int .i64 tab, .slice pa pan.length pc, .int .i64 hei, .slice ta top.length tc, .slice ba bot.length bc, .int .i64 slo, .bool false, .int .i64 off, .slice ta top.length tc, .slice ba bot.length bc] from hd 4 _ (by simp) rfl)
      obtain ⟨x, rfl⟩ := upd_of (show x 5 = .int .i64 k from hd 5 _ (by simp) rfl)
      show wpOp Try.prog _ _ 6 K (⟨#[s 0, s 1, .int .i64 k, .pointer (some ⟨w.heap.size, 0, none⟩), .pointer (some ⟨(w.heap.size + 1), 0, none⟩), s 5, .pointer (some ⟨(w.heap.size + 1 + 1), 0, none⟩), .pointer (some ⟨(w.heap.size + 1 + 1 + 1), 0, none⟩), undef, undef, x 10, s 11, s 12, s 13, s 14, s 15, s 16, s 17, s 18, s 19, s 20, s 21, s 22, s 23, s 24, s 25, s 26, s 27, s 28, s 29, s 30, s 31, s 32, s 33, s 34, s 35, s 36, s 37, s 38, s 39, s 40, x 0, x 1, x 2, x 3, .agg #[.int .i64 tab, .slice pa pan.length pc, .int .i64 hei, .slice ta top.length tc, .slice ba bot.length bc, .int .i64 slo, .bool false, .int .i64 off, .slice ta top.length tc, .slice ba bot.length bc], .int .i64 k, x 6, x 7, x 8, x 9, undef, undef, undef, undef, undef, undef, undef, undef, undef, undef, undef, undef, undef, undef, undef, undef], []⟩ : Act) v
      refine wpOp_step rfl (fun K' hK' => ?_)
      go_simp
      refine (lost_any _ _ _ _ _ _ _ _ _ _ _ _ _ _ k v).mono ?_
      rintro e v' ⟨rfl, hg⟩
      exact hK' _ _ (hK _ _ hg (at_of rfl (rfl)))
    · show wpOp Try.prog _ _ 7 K (⟨#[s 0, s 1, .int .i64 k, .pointer (some ⟨w.heap.size, 0, none⟩), .pointer (some ⟨(w.heap.size + 1), 0, none⟩), s 5, .pointer (some ⟨(w.heap.size + 1 + 1), 0, none⟩), .pointer (some ⟨(w.heap.size + 1 + 1 + 1), 0, none⟩), undef, undef, x 10, s 11, s 12, s 13, s 14, s 15, s 16, s 17, s 18, s 19, s 20, s 21, s 22, s 23, s 24, s 25, s 26, s 27, s 28, s 29, s 30, s 31, s 32, s 33, s 34, s 35, s 36, s 37, s 38, s 39, s 40, x 0, x 1, x 2, x 3, x 4, x 5, x 6, x 7, x 8, x 9, undef, undef, undef, undef, undef, undef, undef, undef, undef, undef, undef, undef, undef, undef, undef, undef], []⟩ : Act) v
      refine wpOp_step rfl (fun K' hK' => ?_)
      rw [if_pos (by rfl)]
      refine wp_load_mid 130 _ rfl (w.heap.size + 1) 0 (by rfl) [.int .i64 ll, .int .i64 lh, .int .i64 wl, .int .i64 wh, .int .i64 hl, .int .i64 hh, .int .i64 ol, .int .i64 oh, .int .i64 il, .int .i64 ih, .bool false] _ (fun j u hu => by rw [Nat.zero_add]; exact (hW.keep gv).2 j u hu) Try.underlying130 rfl (by kernel_rfl) ?_
      exact hK' _ _ (hK _ _ (Below.refl _ _) (at_of rfl (rfl)))
    · show wpOp Try.prog _ _ 8 K (⟨#[s 0, s 1, .int .i64 k, .pointer (some ⟨w.heap.size, 0, none⟩), .pointer (some ⟨(w.heap.size + 1), 0, none⟩), s 5, .pointer (some ⟨(w.heap.size + 1 + 1), 0, none⟩), .pointer (some ⟨(w.heap.size + 1 + 1 + 1), 0, none⟩), undef, undef, x 10, s 11, s 12, s 13, s 14, s 15, s 16, s 17, s 18, s 19, s 20, s 21, s 22, s 23, s 24, s 25, s 26, s 27, s 28, s 29, s 30, s 31, s 32, s 33, s 34, s 35, s 36, s 37, s 38, s 39, s 40, x 0, x 1, x 2, x 3, x 4, x 5, x 6, x 7, x 8, x 9, undef, undef, undef, undef, undef, undef, undef, undef, undef, undef, undef, undef, undef, undef, undef, undef], []⟩ : Act) v
      refine wpOp_step rfl (fun K' hK' => ?_)
      go_simp
      exact hK' _ _ (hK _ _ (Below.refl _ _) (at_of rfl (rfl)))
    · obtain ⟨x, rfl⟩ := upd_of (show x 7 = .agg #[.int .i64 ll, .int .i64 lh, .int .i64 wl, .int .i64 wh, .int .i64 hl, .int .i64 hh, .int .i64 ol, .int .i64 oh, .int .i64 il, .int .i64 ih, .bool false] from hd 7 _ (by simp) rfl)
      obtain ⟨x, rfl⟩ := upd_of (show x 8 = .int .i64 k from hd 8 _ (by simp) rfl)
      show wpOp Try.prog _ _ 9 K (⟨#[s 0, s 1, .int .i64 k, .pointer (some ⟨w.heap.size, 0, none⟩), .pointer (some ⟨(w.heap.size + 1), 0, none⟩), s 5, .pointer (some ⟨(w.heap.size + 1 + 1), 0, none⟩), .pointer (some ⟨(w.heap.size + 1 + 1 + 1), 0, none⟩), undef, undef, x 10, s 11, s 12, s 13, s 14, s 15, s 16, s 17, s 18, s 19, s 20, s 21, s 22, s 23, s 24, s 25, s 26, s 27, s 28, s 29, s 30, s 31, s 32, s 33, s 34, s 35, s 36, s 37, s 38, s 39, s 40, x 0, x 1, x 2, x 3, x 4, x 5, x 6, .agg #[.int .i64 ll, .int .i64 lh, .int .i64 wl, .int .i64 wh, .int .i64 hl, .int .i64 hh, .int .i64 ol, .int .i64 oh, .int .i64 il, .int .i64 ih, .bool false], .int .i64 k, x 9, undef, undef, undef, undef, undef, undef, undef, undef, undef, undef, undef, undef, undef, undef, undef, undef], []⟩ : Act) v
      refine wpOp_step rfl (fun K' hK' => ?_)
      go_simp
      refine (in_any ll lh wl wh hl hh ol oh il ih false HH.out k hk v).mono ?_
      rintro e v' ⟨rfl, hg⟩
      exact hK' _ _ (hK _ _ hg (at_of rfl (rfl)))
    · show wpOp Try.prog _ _ 10 K (⟨#[s 0, s 1, .int .i64 k, .pointer (some ⟨w.heap.size, 0, none⟩), .pointer (some ⟨(w.heap.size + 1), 0, none⟩), s 5, .pointer (some ⟨(w.heap.size + 1 + 1), 0, none⟩), .pointer (some ⟨(w.heap.size + 1 + 1 + 1), 0, none⟩), undef, undef, x 10, s 11, s 12, s 13, s 14, s 15, s 16, s 17, s 18, s 19, s 20, s 21, s 22, s 23, s 24, s 25, s 26, s 27, s 28, s 29, s 30, s 31, s 32, s 33, s 34, s 35, s 36, s 37, s 38, s 39, s 40, x 0, x 1, x 2, x 3, x 4, x 5, x 6, x 7, x 8, x 9, undef, undef, undef, undef, undef, undef, undef, undef, undef, undef, undef, undef, undef, undef, undef, undef], []⟩ : Act) v
      refine wpOp_step rfl (fun K' hK' => ?_)
      go_simp
      have hg := Gr.al v (.cells (List.toArray [.int .i64 0, .int .i64 0]) 38)
      exact hK' _ _ (hK _ _ hg (at_of rfl (⟨v.heap.size, rfl, gv.size, Own.new v [.int .i64 0, .int .i64 0] 38 v.heap.size rfl⟩)))
  case fin6 =>
    rintro x v gv hd
    obtain ⟨x, rfl⟩ := upd_of (show x 3 = .int .i64 (flatS off hei slo pan top bot false k).lo from hd 3 _ (by omega) rfl)
    obtain ⟨x, rfl⟩ := upd_of (show x 6 = .int .i64 (lostL k false) from hd 6 _ (by omega) rfl)
    obtain ⟨x, rfl⟩ := upd_of (show x 9 = .agg #[.int .i64 (inS ll lh wl wh hl hh ol oh il ih k).lo, .int .i64 (inS ll lh wl wh hl hh ol oh il ih k).hi] from hd 9 _ (by omega) rfl)
    obtain ⟨b10, e10, hb10, ow10⟩ := hd 10 _ (by omega) rfl
    obtain ⟨x, rfl⟩ := upd_of (show x 10 = .pointer (some ⟨b10, 0, none⟩) from e10)
    clear hd
    show wpList Try.prog _ _ (List.drop 11 _) (⟨#[s 0, s 1, .int .i64 k, .pointer (some ⟨w.heap.size, 0, none⟩), .pointer (some ⟨(w.heap.size + 1), 0, none⟩), s 5, .pointer (some ⟨(w.heap.size + 1 + 1), 0, none⟩), .pointer (some ⟨(w.heap.size + 1 + 1 + 1), 0, none⟩), undef, undef, .pointer (some ⟨b10, 0, none⟩), s 11, s 12, s 13, s 14, s 15, s 16, s 17, s 18, s 19, s 20, s 21, s 22, s 23, s 24, s 25, s 26, s 27, s 28, s 29, s 30, s 31, s 32, s 33, s 34, s 35, s 36, s 37, s 38, s 39, s 40, x 0, x 1, x 2, .int .i64 (flatS off hei slo pan top bot false k).lo, x 4, x 5, .int .i64 (lostL k false), x 7, x 8, .agg #[.int .i64 (inS ll lh wl wh hl hh ol oh il ih k).lo, .int .i64 (inS ll lh wl wh hl hh ol oh il ih k).hi], undef, undef, undef, undef, undef, undef, undef, undef, undef, undef, undef, undef, undef, undef, undef, undef], []⟩ : Act) v
    simp only [List.drop_succ_cons, List.drop_zero]
    have gW := gg.tr gv
    have hX := hX.keep gv
    have oR := oR.keep gv
    have hA := hA.keep gv
    have hbw := gg.size
    have hbX := oR.1.1
    have hbR := (show b10 ≠ (w.heap.size + 1 + 1) by have := oR0.1.1; omega)
    have hbA := (show b10 ≠ (w.heap.size + 1 + 1 + 1) by have := hA0.1.1; omega)
    obtain ⟨u0, u1⟩ := ow10.1.c2
    have z0 := ow10.2 0
    have z1 := ow10.2 1
    clear gg gv hW
    go_upto_region 7 with fail
    refine wp_abs (fun V => Gr w V ∧ Own V (w.heap.size + 1 + 1) [.int .i64 0, .int .i64 0] ∧ Own V (w.heap.size + 1 + 1 + 1) [.int .i64 1, .int .i64 10000] ∧ Box V b10 [.int .i64 (inS ll lh wl wh hl hh ol oh il ih k).lo, .int .i64 (inS ll lh wl wh hl hh ol oh il ih k).hi]) ⟨(gW.setCell (by simp; omega) _).setCell (by simp; omega) _, (oR.other (by omega)).other (by omega), (hA.other (by omega)).other (by omega), ((ow10.set (i := 0) (by simp)).set (i := 1) (by simp)).1⟩ ?_
    clear gW oR hA ow10 u0 u1 z0 z1 hX
    rintro V ⟨gg, oR, hA, hI⟩
    have v0 : IntKind.i64.wrap ((flatS off hei slo pan top bot false k).lo - (inS ll lh wl wh hl hh ol oh il ih k).hi) = (flatS off hei slo pan top bot false k).lo - (inS ll lh wl wh hl hh ol oh il ih k).hi := IntWalk.i64_in _ (by omega)
    have v1 : IntKind.i64.wrap ((flatS off hei slo pan top bot false k).lo - (inS ll lh wl wh hl hh ol oh il ih k).lo) = (flatS off hei slo pan top bot false k).lo - (inS ll lh wl wh hl hh ol oh il ih k).lo := IntWalk.i64_in _ (by omega)
    have v2 : IntKind.i64.wrap (((flatS off hei slo pan top bot false k).lo - (inS ll lh wl wh hl hh ol oh il ih k).hi).tdiv (lostL k false)) = ((flatS off hei slo pan top bot false k).lo - (inS ll lh wl wh hl hh ol oh il ih k).hi).tdiv (lostL k false) := IntWalk.i64_in _ (by omega)
    have v3 : IntKind.i64.wrap (((flatS off hei slo pan top bot false k).lo - (inS ll lh wl wh hl hh ol oh il ih k).lo).tdiv (lostL k false)) = ((flatS off hei slo pan top bot false k).lo - (inS ll lh wl wh hl hh ol oh il ih k).lo).tdiv (lostL k false) := IntWalk.i64_in _ (by omega)
    refine (show (∀ s : Nat → Value, Code.wp Try.prog _ _ ⟨#[s 0, s 1, s 2, .pointer (some ⟨w.heap.size, 0, none⟩), .pointer (some ⟨(w.heap.size + 1), 0, none⟩), s 5, .pointer (some ⟨(w.heap.size + 1 + 1), 0, none⟩), .pointer (some ⟨(w.heap.size + 1 + 1 + 1), 0, none⟩), .int .i64 (flatS off hei slo pan top bot false k).lo, .int .i64 (lostL k false), .pointer (some ⟨b10, 0, none⟩), s 11, s 12, s 13, s 14, s 15, s 16, s 17, s 18, s 19, s 20, s 21, s 22, s 23, s 24, s 25, s 26, s 27, s 28, s 29, s 30, s 31, s 32, s 33, s 34, s 35, s 36, s 37, s 38, s 39, s 40, s 41, s 42, s 43, s 44, s 45, s 46, s 47, s 48, s 49, s 50, undef, undef, undef, undef, undef, undef, undef, undef, undef, undef, undef, undef, undef, undef, undef, undef], []⟩ _) → _ from fun h => h ((fun l : List Value => fun i => l.getD i undef) [_, _, _, undef, undef, _, undef, undef, undef, undef, undef, _, _, _, _, _, _, _, _, _, _, _, _, _, _, _, _, _, _, _, _, _, _, _, _, _, _, _, _, _, _, _, _, _, _, _, _, _, _, _, _])) ?_
    clear s
    intro s
    dsimp only
    refine wp_region_facts 16 [(3, 2), (4, 1), (4, 3), (6, 4), (6, 5), (9, 8), (10, 7), (10, 9), (12, 10), (12, 11), (13, 6), (13, 12), (14, 13), (15, 0), (15, 14)] (fun x => ⟨#[s 0, s 1, s 2, .pointer (some ⟨w.heap.size, 0, none⟩), .pointer (some ⟨(w.heap.size + 1), 0, none⟩), s 5, .pointer (some ⟨(w.heap.size + 1 + 1), 0, none⟩), .pointer (some ⟨(w.heap.size + 1 + 1 + 1), 0, none⟩), .int .i64 (flatS off hei slo pan top bot false k).lo, .int .i64 (lostL k false), .pointer (some ⟨b10, 0, none⟩), s 11, s 12, s 13, s 14, s 15, s 16, s 17, s 18, s 19, s 20, s 21, s 22, s 23, s 24, s 25, s 26, s 27, s 28, s 29, s 30, s 31, s 32, s 33, s 34, s 35, s 36, s 37, s 38, s 39, s 40, s 41, s 42, s 43, s 44, s 45, s 46, s 47, s 48, s 49, s 50, x 0, x 1, x 2, x 3, x 4, x 5, x 6, x 7, x 8, x 9, x 10, x 11, x 12, x 13, x 14, x 15], []⟩) (fun _ => undef) [fun _ x => x = .agg #[.int .i64 1, .int .i64 10000], fun _ x => x = .int .i64 (flatS off hei slo pan top bot false k).lo, fun _ x => x = .pointer (some ⟨b10, 1, none⟩), fun _ x => x = .int .i64 (inS ll lh wl wh hl hh ol oh il ih k).hi, fun _ x => x = .int .i64 ((flatS off hei slo pan top bot false k).lo - (inS ll lh wl wh hl hh ol oh il ih k).hi), fun _ x => x = .int .i64 (lostL k false), fun _ x => x = .int .i64 (((flatS off hei slo pan top bot false k).lo - (inS ll lh wl wh hl hh ol oh il ih k).hi).tdiv (lostL k false)), fun _ x => x = .int .i64 (flatS off hei slo pan top bot false k).lo, fun _ x => x = .pointer (some ⟨b10, 0, none⟩), fun _ x => x = .int .i64 (inS ll lh wl wh hl hh ol oh il ih k).lo, fun _ x => x = .int .i64 ((flatS off hei slo pan top bot false k).lo - (inS ll lh wl wh hl hh ol oh il ih k).lo), fun _ x => x = .int .i64 (lostL k false), fun _ x => x = .int .i64 (((flatS off hei slo pan top bot false k).lo - (inS ll lh wl wh hl hh ol oh il ih k).lo).tdiv (lostL k false)), fun _ x => x = .agg #[.int .i64 (((flatS off hei slo pan top bot false k).lo - (inS ll lh wl wh hl hh ol oh il ih k).hi).tdiv (lostL k false)), .int .i64 (((flatS off hei slo pan top bot false k).lo - (inS ll lh wl wh hl hh ol oh il ih k).lo).tdiv (lostL k false))], fun v x => ∃ a, x = .slice a 1 1 ∧ SRow v a [⟨((flatS off hei slo pan top bot false k).lo - (inS ll lh wl wh hl hh ol oh il ih k).hi).tdiv (lostL k false), ((flatS off hei slo pan top bot false k).lo - (inS ll lh wl wh hl hh ol oh il ih k).lo).tdiv (lostL k false)⟩], fun _ x => x = .agg #[.int .i64 (max 1 (((flatS off hei slo pan top bot false k).lo - (inS ll lh wl wh hl hh ol oh il ih k).hi).tdiv (lostL k false))), .int .i64 (min 10000 (((flatS off hei slo pan top bot false k).lo - (inS ll lh wl wh hl hh ol oh il ih k).lo).tdiv (lostL k false)))]] (by rfl) (by kernel_rfl) (by kernel_rfl) (by kernel_rfl) (stays_cons (Stays.eq _) (stays_cons (Stays.eq _) (stays_cons (Stays.eq _) (stays_cons (Stays.eq _) (stays_cons (Stays.eq _) (stays_cons (Stays.eq _) (stays_cons (Stays.eq _) (stays_cons (Stays.eq _) (stays_cons (Stays.eq _) (stays_cons (Stays.eq _) (stays_cons (Stays.eq _) (stays_cons (Stays.eq _) (stays_cons (Stays.eq _) (stays_cons (Stays.eq _) (stays_cons (fun v v' x g ⟨a, e, r⟩ => ⟨a, e, r.grow g⟩) (stays_cons (Stays.eq _) stays_nil)))))))))))))))) ?step7 ?fin7
    case step7 =>
      rintro i hi x v gv hd K hK
      have hi8 : i = 0 ∨ i = 1 ∨ i = 2 ∨ i = 3 ∨ i = 4 ∨ i = 5 ∨ i = 6 ∨ i = 7 ∨ i = 8 ∨ i = 9 ∨ i = 10 ∨ i = 11 ∨ i = 12 ∨ i = 13 ∨ i = 14 ∨ i = 15 := by omega
      rcases hi8 with rfl | rfl | rfl | rfl | rfl | rfl | rfl | rfl | rfl | rfl | rfl | rfl | rfl | rfl | rfl | rfl
      · show wpOp Try.prog _ _ 0 K (⟨#[s 0, s 1, s 2, .pointer (some ⟨w.heap.size, 0, none⟩), .pointer (some ⟨(w.heap.size + 1), 0, none⟩), s 5, .pointer (some ⟨(w.heap.size + 1 + 1), 0, none⟩), .pointer (some ⟨(w.heap.size + 1 + 1 + 1), 0, none⟩), .int .i64 (flatS off hei slo pan top bot false k).lo, .int .i64 (lostL k false), .pointer (some ⟨b10, 0, none⟩), s 11, s 12, s 13, s 14, s 15, s 16, s 17, s 18, s 19, s 20, s 21, s 22, s 23, s 24, s 25, s 26, s 27, s 28, s 29, s 30, s 31, s 32, s 33, s 34, s 35, s 36, s 37, s 38, s 39, s 40, s 41, s 42, s 43, s 44, s 45, s 46, s 47, s 48, s 49, s 50, x 0, x 1, x 2, x 3, x 4, x 5, x 6, x 7, x 8, x 9, x 10, x 11, x 12, x 13, x 14, x 15], []⟩ : Act) v
        refine wpOp_step rfl (fun K' hK' => ?_)
        rw [if_pos (by rfl)]
        refine wp_load_mid 38 _ rfl (w.heap.size + 1 + 1 + 1) 0 (by rfl) [.int .i64 1, .int .i64 10000] _ (fun j u hu => by rw [Nat.zero_add]; exact (hA.1.keep gv).2 j u hu) Try.underlying38 rfl (by kernel_rfl) ?_
        exact hK' _ _ (hK _ _ (Below.refl _ _) (at_of rfl (rfl)))
      · show wpOp Try.prog _ _ 1 K (⟨#[s 0, s 1, s 2, .pointer (some ⟨w.heap.size, 0, none⟩), .pointer (some ⟨(w.heap.size + 1), 0, none⟩), s 5, .pointer (some ⟨(w.heap.size + 1 + 1), 0, none⟩), .pointer (some ⟨(w.heap.size + 1 + 1 + 1), 0, none⟩), .int .i64 (flatS off hei slo pan top bot false k).lo, .int .i64 (lostL k false), .pointer (some ⟨b10, 0, none⟩), s 11, s 12, s 13, s 14, s 15, s 16, s 17, s 18, s 19, s 20, s 21, s 22, s 23, s 24, s 25, s 26, s 27, s 28, s 29, s 30, s 31, s 32, s 33, s 34, s 35, s 36, s 37, s 38, s 39, s 40, s 41, s 42, s 43, s 44, s 45, s 46, s 47, s 48, s 49, s 50, x 0, x 1, x 2, x 3, x 4, x 5, x 6, x 7, x 8, x 9, x 10, x 11, x 12, x 13, x 14, x 15], []⟩ : Act) v
        refine wpOp_step rfl (fun K' hK' => ?_)
        go_simp
        exact hK' _ _ (hK _ _ (Below.refl _ _) (at_of rfl (rfl)))
      · show wpOp Try.prog _ _ 2 K (⟨#[s 0, s 1, s 2, .pointer (some ⟨w.heap.size, 0, none⟩), .pointer (some ⟨(w.heap.size + 1), 0, none⟩), s 5, .pointer (some ⟨(w.heap.size + 1 + 1), 0, none⟩), .pointer (some ⟨(w.heap.size + 1 + 1 + 1), 0, none⟩), .int .i64 (flatS off hei slo pan top bot false k).lo, .int .i64 (lostL k false), .pointer (some ⟨b10, 0, none⟩), s 11, s 12, s 13, s 14, s 15, s 16, s 17, s 18, s 19, s 20, s 21, s 22, s 23, s 24, s 25, s 26, s 27, s 28, s 29, s 30, s 31, s 32, s 33, s 34, s 35, s 36, s 37, s 38, s 39, s 40, s 41, s 42, s 43, s 44, s 45, s 46, s 47, s 48, s 49, s 50, x 0, x 1, x 2, x 3, x 4, x 5, x 6, x 7, x 8, x 9, x 10, x 11, x 12, x 13, x 14, x 15], []⟩ : Act) v
        refine wpOp_step rfl (fun K' hK' => ?_)
        go_simp
        exact hK' _ _ (hK _ _ (Below.refl _ _) (at_of rfl (rfl)))
      · obtain ⟨x, rfl⟩ := upd_of (show x 2 = .pointer (some ⟨b10, 1, none⟩) from hd 2 _ (by simp) rfl)
        show wpOp Try.prog _ _ 3 K (⟨#[s 0, s 1, s 2, .pointer (some ⟨w.heap.size, 0, none⟩), .pointer (some ⟨(w.heap.size + 1), 0, none⟩), s 5, .pointer (some ⟨(w.heap.size + 1 + 1), 0, none⟩), .pointer (some ⟨(w.heap.size + 1 + 1 + 1), 0, none⟩), .int .i64 (flatS off hei slo pan top bot false k).lo, .int .i64 (lostL k false), .pointer (some ⟨b10, 0, none⟩), s 11, s 12, s 13, s 14, s 15, s 16, s 17, s 18, s 19, s 20, s 21, s 22, s 23, s 24, s 25, s 26, s 27, s 28, s 29, s 30, s 31, s 32, s 33, s 34, s 35, s 36, s 37, s 38, s 39, s 40, s 41, s 42, s 43, s 44, s 45, s 46, s 47, s 48, s 49, s 50, x 0, x 1, .pointer (some ⟨b10, 1, none⟩), x 3, x 4, x 5, x 6, x 7, x 8, x 9, x 10, x 11, x 12, x 13, x 14, x 15], []⟩ : Act) v
        refine wpOp_step rfl (fun K' hK' => ?_)
        have q := (hI.keep gv).2 1 _ rfl
        go_simp
        exact hK' _ _ (hK _ _ (Below.refl _ _) (at_of rfl (rfl)))
      · obtain ⟨x, rfl⟩ := upd_of (show x 1 = .int .i64 (flatS off hei slo pan top bot false k).lo from hd 1 _ (by simp) rfl)
        obtain ⟨x, rfl⟩ := upd_of (show x 3 = .int .i64 (inS ll lh wl wh hl hh ol oh il ih k).hi from hd 3 _ (by simp) rfl)
        show wpOp Try.prog _ _ 4 K (⟨#[s 0, s 1, s 2, .pointer (some ⟨w.heap.size, 0, none⟩), .pointer (some ⟨(w.heap.size + 1), 0, none⟩), s 5, .pointer (some ⟨(w.heap.size + 1 + 1), 0, none⟩), .pointer (some ⟨(w.heap.size + 1 + 1 + 1), 0, none⟩), .int .i64 (flatS off hei slo pan top bot false k).lo, .int .i64 (lostL k false), .pointer (some ⟨b10, 0, none⟩), s 11, s 12, s 13, s 14, s 15, s 16, s 17, s 18, s 19, s 20, s 21, s 22, s 23, s 24, s 25, s 26, s 27, s 28, s 29, s 30, s 31, s 32, s 33, s 34, s 35, s 36, s 37, s 38, s 39, s 40, s 41, s 42, s 43, s 44, s 45, s 46, s 47, s 48, s 49, s 50, x 0, .int .i64 (flatS off hei slo pan top bot false k).lo, x 2, .int .i64 (inS ll lh wl wh hl hh ol oh il ih k).hi, x 4, x 5, x 6, x 7, x 8, x 9, x 10, x 11, x 12, x 13, x 14, x 15], []⟩ : Act) v
        refine wpOp_step rfl (fun K' hK' => ?_)
        go_simp
        exact hK' _ _ (hK _ _ (Below.refl _ _) (at_of rfl (rfl)))
      · show wpOp Try.prog _ _ 5 K (⟨#[s 0, s 1, s 2, .pointer (some ⟨w.heap.size, 0, none⟩), .pointer (some ⟨(w.heap.size + 1), 0, none⟩), s 5, .pointer (some ⟨(w.heap.size + 1 + 1), 0, none⟩), .pointer (some ⟨(w.heap.size + 1 + 1 + 1), 0, none⟩), .int .i64 (flatS off hei slo pan top bot false k).lo, .int .i64 (lostL k false), .pointer (some ⟨b10, 0, none⟩), s 11, s 12, s 13, s 14, s 15, s 16, s 17, s 18, s 19, s 20, s 21, s 22, s 23, s 24, s 25, s 26, s 27, s 28, s 29, s 30, s 31, s 32, s 33, s 34, s 35, s 36, s 37, s 38, s 39, s 40, s 41, s 42, s 43, s 44, s 45, s 46, s 47, s 48, s 49, s 50, x 0, x 1, x 2, x 3, x 4, x 5, x 6, x 7, x 8, x 9, x 10, x 11, x 12, x 13, x 14, x 15], []⟩ : Act) v
        refine wpOp_step rfl (fun K' hK' => ?_)
        go_simp
        exact hK' _ _ (hK _ _ (Below.refl _ _) (at_of rfl (rfl)))
      · obtain ⟨x, rfl⟩ := upd_of (show x 4 = .int .i64 ((flatS off hei slo pan top bot false k).lo - (inS ll lh wl wh hl hh ol oh il ih k).hi) from hd 4 _ (by simp) rfl)
        obtain ⟨x, rfl⟩ := upd_of (show x 5 = .int .i64 (lostL k false) from hd 5 _ (by simp) rfl)
        show wpOp Try.prog _ _ 6 K (⟨#[s 0, s 1, s 2, .pointer (some ⟨w.heap.size, 0, none⟩), .pointer (some ⟨(w.heap.size + 1), 0, none⟩), s 5, .pointer (some ⟨(w.heap.size + 1 + 1), 0, none⟩), .pointer (some ⟨(w.heap.size + 1 + 1 + 1), 0, none⟩), .int .i64 (flatS off hei slo pan top bot false k).lo, .int .i64 (lostL k false), .pointer (some ⟨b10, 0, none⟩), s 11, s 12, s 13, s 14, s 15, s 16, s 17, s 18, s 19, s 20, s 21, s 22, s 23, s 24, s 25, s 26, s 27, s 28, s 29, s 30, s 31, s 32, s 33, s 34, s 35, s 36, s 37, s 38, s 39, s 40, s 41, s 42, s 43, s 44, s 45, s 46, s 47, s 48, s 49, s 50, x 0, x 1, x 2, x 3, .int .i64 ((flatS off hei slo pan top bot false k).lo - (inS ll lh wl wh hl hh ol oh il ih k).hi), .int .i64 (lostL k false), x 6, x 7, x 8, x 9, x 10, x 11, x 12, x 13, x 14, x 15], []⟩ : Act) v
        refine wpOp_step rfl (fun K' hK' => ?_)
        go_simp
        exact hK' _ _ (hK _ _ (Below.refl _ _) (at_of rfl (rfl)))
      · show wpOp Try.prog _ _ 7 K (⟨#[s 0, s 1, s 2, .pointer (some ⟨w.heap.size, 0, none⟩), .pointer (some ⟨(w.heap.size + 1), 0, none⟩), s 5, .pointer (some ⟨(w.heap.size + 1 + 1), 0, none⟩), .pointer (some ⟨(w.heap.size + 1 + 1 + 1), 0, none⟩), .int .i64 (flatS off hei slo pan top bot false k).lo, .int .i64 (lostL k false), .pointer (some ⟨b10, 0, none⟩), s 11, s 12, s 13, s 14, s 15, s 16, s 17, s 18, s 19, s 20, s 21, s 22, s 23, s 24, s 25, s 26, s 27, s 28, s 29, s 30, s 31, s 32, s 33, s 34, s 35, s 36, s 37, s 38, s 39, s 40, s 41, s 42, s 43, s 44, s 45, s 46, s 47, s 48, s 49, s 50, x 0, x 1, x 2, x 3, x 4, x 5, x 6, x 7, x 8, x 9, x 10, x 11, x 12, x 13, x 14, x 15], []⟩ : Act) v
        refine wpOp_step rfl (fun K' hK' => ?_)
        go_simp
        exact hK' _ _ (hK _ _ (Below.refl _ _) (at_of rfl (rfl)))
      · show wpOp Try.prog _ _ 8 K (⟨#[s 0, s 1, s 2, .pointer (some ⟨w.heap.size, 0, none⟩), .pointer (some ⟨(w.heap.size + 1), 0, none⟩), s 5, .pointer (some ⟨(w.heap.size + 1 + 1), 0, none⟩), .pointer (some ⟨(w.heap.size + 1 + 1 + 1), 0, none⟩), .int .i64 (flatS off hei slo pan top bot false k).lo, .int .i64 (lostL k false), .pointer (some ⟨b10, 0, none⟩), s 11, s 12, s 13, s 14, s 15, s 16, s 17, s 18, s 19, s 20, s 21, s 22, s 23, s 24, s 25, s 26, s 27, s 28, s 29, s 30, s 31, s 32, s 33, s 34, s 35, s 36, s 37, s 38, s 39, s 40, s 41, s 42, s 43, s 44, s 45, s 46, s 47, s 48, s 49, s 50, x 0, x 1, x 2, x 3, x 4, x 5, x 6, x 7, x 8, x 9, x 10, x 11, x 12, x 13, x 14, x 15], []⟩ : Act) v
        refine wpOp_step rfl (fun K' hK' => ?_)
        go_simp
        exact hK' _ _ (hK _ _ (Below.refl _ _) (at_of rfl (rfl)))
      · obtain ⟨x, rfl⟩ := upd_of (show x 8 = .pointer (some ⟨b10, 0, none⟩) from hd 8 _ (by simp) rfl)
        show wpOp Try.prog _ _ 9 K (⟨#[s 0, s 1, s 2, .pointer (some ⟨w.heap.size, 0, none⟩), .pointer (some ⟨(w.heap.size + 1), 0, none⟩), s 5, .pointer (some ⟨(w.heap.size + 1 + 1), 0, none⟩), .pointer (some ⟨(w.heap.size + 1 + 1 + 1), 0, none⟩), .int .i64 (flatS off hei slo pan top bot false k).lo, .int .i64 (lostL k false), .pointer (some ⟨b10, 0, none⟩), s 11, s 12, s 13, s 14, s 15, s 16, s 17, s 18, s 19, s 20, s 21, s 22, s 23, s 24, s 25, s 26, s 27, s 28, s 29, s 30, s 31, s 32, s 33, s 34, s 35, s 36, s 37, s 38, s 39, s 40, s 41, s 42, s 43, s 44, s 45, s 46, s 47, s 48, s 49, s 50, x 0, x 1, x 2, x 3, x 4, x 5, x 6, x 7, .pointer (some ⟨b10, 0, none⟩), x 9, x 10, x 11, x 12, x 13, x 14, x 15], []⟩ : Act) v
        refine wpOp_step rfl (fun K' hK' => ?_)
        have q := (hI.keep gv).2 0 _ rfl
        go_simp
        exact hK' _ _ (hK _ _ (Below.refl _ _) (at_of rfl (rfl)))
      · obtain ⟨x, rfl⟩ := upd_of (show x 7 = .int .i64 (flatS off hei slo pan top bot false k).lo from hd 7 _ (by simp) rfl)
        obtain ⟨x, rfl⟩ := upd_of (show x 9 = .int .i64 (inS ll lh wl wh hl hh ol oh il ih k).lo from hd 9 _ (by simp) rfl)
        show wpOp Try.prog _ _ 10 K (⟨#[s 0, s 1, s 2, .pointer (some ⟨w.heap.size, 0, none⟩), .pointer (some ⟨(w.heap.size + 1), 0, none⟩), s 5, .pointer (some ⟨(w.heap.size + 1 + 1), 0, none⟩), .pointer (some ⟨(w.heap.size + 1 + 1 + 1), 0, none⟩), .int .i64 (flatS off hei slo pan top bot false k).lo, .int .i64 (lostL k false), .pointer (some ⟨b10, 0, none⟩), s 11, s 12, s 13, s 14, s 15, s 16, s 17, s 18, s 19, s 20, s 21, s 22, s 23, s 24, s 25, s 26, s 27, s 28, s 29, s 30, s 31, s 32, s 33, s 34, s 35, s 36, s 37, s 38, s 39, s 40, s 41, s 42, s 43, s 44, s 45, s 46, s 47, s 48, s 49, s 50, x 0, x 1, x 2, x 3, x 4, x 5, x 6, .int .i64 (flatS off hei slo pan top bot false k).lo, x 8, .int .i64 (inS ll lh wl wh hl hh ol oh il ih k).lo, x 10, x 11, x 12, x 13, x 14, x 15], []⟩ : Act) v
        refine wpOp_step rfl (fun K' hK' => ?_)
        go_simp
        exact hK' _ _ (hK _ _ (Below.refl _ _) (at_of rfl (rfl)))
      · show wpOp Try.prog _ _ 11 K (⟨#[s 0, s 1, s 2, .pointer (some ⟨w.heap.size, 0, none⟩), .pointer (some ⟨(w.heap.size + 1), 0, none⟩), s 5, .pointer (some ⟨(w.heap.size + 1 + 1), 0, none⟩), .pointer (some ⟨(w.heap.size + 1 + 1 + 1), 0, none⟩), .int .i64 (flatS off hei slo pan top bot false k).lo, .int .i64 (lostL k false), .pointer (some ⟨b10, 0, none⟩), s 11, s 12, s 13, s 14, s 15, s 16, s 17, s 18, s 19, s 20, s 21, s 22, s 23, s 24, s 25, s 26, s 27, s 28, s 29, s 30, s 31, s 32, s 33, s 34, s 35, s 36, s 37, s 38, s 39, s 40, s 41, s 42, s 43, s 44, s 45, s 46, s 47, s 48, s 49, s 50, x 0, x 1, x 2, x 3, x 4, x 5, x 6, x 7, x 8, x 9, x 10, x 11, x 12, x 13, x 14, x 15], []⟩ : Act) v
        refine wpOp_step rfl (fun K' hK' => ?_)
        go_simp
        exact hK' _ _ (hK _ _ (Below.refl _ _) (at_of rfl (rfl)))
      · obtain ⟨x, rfl⟩ := upd_of (show x 10 = .int .i64 ((flatS off hei slo pan top bot false k).lo - (inS ll lh wl wh hl hh ol oh il ih k).lo) from hd 10 _ (by simp) rfl)
        obtain ⟨x, rfl⟩ := upd_of (show x 11 = .int .i64 (lostL k false) from hd 11 _ (by simp) rfl)
        show wpOp Try.prog _ _ 12 K (⟨#[s 0, s 1, s 2, .pointer (some ⟨w.heap.size, 0, none⟩), .pointer (some ⟨(w.heap.size + 1), 0, none⟩), s 5, .pointer (some ⟨(w.heap.size + 1 + 1), 0, none⟩), .pointer (some ⟨(w.heap.size + 1 + 1 + 1), 0, none⟩), .int .i64 (flatS off hei slo pan top bot false k).lo, .int .i64 (lostL k false), .pointer (some ⟨b10, 0, none⟩), s 11, s 12, s 13, s 14, s 15, s 16, s 17, s 18, s 19, s 20, s 21, s 22, s 23, s 24, s 25, s 26, s 27, s 28, s 29, s 30, s 31, s 32, s 33, s 34, s 35, s 36, s 37, s 38, s 39, s 40, s 41, s 42, s 43, s 44, s 45, s 46, s 47, s 48, s 49, s 50, x 0, x 1, x 2, x 3, x 4, x 5, x 6, x 7, x 8, x 9, .int .i64 ((flatS off hei slo pan top bot false k).lo - (inS ll lh wl wh hl hh ol oh il ih k).lo), .int .i64 (lostL k false), x 12, x 13, x 14, x 15], []⟩ : Act) v
        refine wpOp_step rfl (fun K' hK' => ?_)
        go_simp
        exact hK' _ _ (hK _ _ (Below.refl _ _) (at_of rfl (rfl)))
      · obtain ⟨x, rfl⟩ := upd_of (show x 6 = .int .i64 (((flatS off hei slo pan top bot false k).lo - (inS ll lh wl wh hl hh ol oh il ih k).hi).tdiv (lostL k false)) from hd 6 _ (by simp) rfl)
        obtain ⟨x, rfl⟩ := upd_of (show x 12 = .int .i64 (((flatS off hei slo pan top bot false k).lo - (inS ll lh wl wh hl hh ol oh il ih k).lo).tdiv (lostL k false)) from hd 12 _ (by simp) rfl)
        show wpOp Try.prog _ _ 13 K (⟨#[s 0, s 1, s 2, .pointer (some ⟨w.heap.size, 0, none⟩), .pointer (some ⟨(w.heap.size + 1), 0, none⟩), s 5, .pointer (some ⟨(w.heap.size + 1 + 1), 0, none⟩), .pointer (some ⟨(w.heap.size + 1 + 1 + 1), 0, none⟩), .int .i64 (flatS off hei slo pan top bot false k).lo, .int .i64 (lostL k false), .pointer (some ⟨b10, 0, none⟩), s 11, s 12, s 13, s 14, s 15, s 16, s 17, s 18, s 19, s 20, s 21, s 22, s 23, s 24, s 25, s 26, s 27, s 28, s 29, s 30, s 31, s 32, s 33, s 34, s 35, s 36, s 37, s 38, s 39, s 40, s 41, s 42, s 43, s 44, s 45, s 46, s 47, s 48, s 49, s 50, x 0, x 1, x 2, x 3, x 4, x 5, .int .i64 (((flatS off hei slo pan top bot false k).lo - (inS ll lh wl wh hl hh ol oh il ih k).hi).tdiv (lostL k false)), x 7, x 8, x 9, x 10, x 11, .int .i64 (((flatS off hei slo pan top bot false k).lo - (inS ll lh wl wh hl hh ol oh il ih k).lo).tdiv (lostL k false)), x 13, x 14, x 15], []⟩ : Act) v
        refine wpOp_step rfl (fun K' hK' => ?_)
        go_simp
        exact hK' _ _ (hK _ _ (Below.refl _ _) (at_of rfl (rfl)))
      · obtain ⟨x, rfl⟩ := upd_of (show x 13 = .agg #[.int .i64 (((flatS off hei slo pan top bot false k).lo - (inS ll lh wl wh hl hh ol oh il ih k).hi).tdiv (lostL k false)), .int .i64 (((flatS off hei slo pan top bot false k).lo - (inS ll lh wl wh hl hh ol oh il ih k).lo).tdiv (lostL k false))] from hd 13 _ (by simp) rfl)
        show wpOp Try.prog _ _ 14 K (⟨#[s 0, s 1, s 2, .pointer (some ⟨w.heap.size, 0, none⟩), .pointer (some ⟨(w.heap.size + 1), 0, none⟩), s 5, .pointer (some ⟨(w.heap.size + 1 + 1), 0, none⟩), .pointer (some ⟨(w.heap.size + 1 + 1 + 1), 0, none⟩), .int .i64 (flatS off hei slo pan top bot false k).lo, .int .i64 (lostL k false), .pointer (some ⟨b10, 0, none⟩), s 11, s 12, s 13, s 14, s 15, s 16, s 17, s 18, s 19, s 20, s 21, s 22, s 23, s 24, s 25, s 26, s 27, s 28, s 29, s 30, s 31, s 32, s 33, s 34, s 35, s 36, s 37, s 38, s 39, s 40, s 41, s 42, s 43, s 44, s 45, s 46, s 47, s 48, s 49, s 50, x 0, x 1, x 2, x 3, x 4, x 5, x 6, x 7, x 8, x 9, x 10, x 11, x 12, .agg #[.int .i64 (((flatS off hei slo pan top bot false k).lo - (inS ll lh wl wh hl hh ol oh il ih k).hi).tdiv (lostL k false)), .int .i64 (((flatS off hei slo pan top bot false k).lo - (inS ll lh wl wh hl hh ol oh il ih k).lo).tdiv (lostL k false))], x 14, x 15], []⟩ : Act) v
        refine wpOp_step rfl (fun K' hK' => ?_)
        go_simp
        have hg := Gr.al v (.cells (List.toArray [.int .i64 (((flatS off hei slo pan top bot false k).lo - (inS ll lh wl wh hl hh ol oh il ih k).hi).tdiv (lostL k false)), .int .i64 (((flatS off hei slo pan top bot false k).lo - (inS ll lh wl wh hl hh ol oh il ih k).lo).tdiv (lostL k false))]) 38)
        exact hK' _ _ (hK _ _ hg (at_of rfl (⟨_, rfl, SRow.new1 v 38 (((flatS off hei slo pan top bot false k).lo - (inS ll lh wl wh hl hh ol oh il ih k).hi).tdiv (lostL k false)) (((flatS off hei slo pan top bot false k).lo - (inS ll lh wl wh hl hh ol oh il ih k).lo).tdiv (lostL k false)) v.heap.size rfl⟩)))
      · obtain ⟨x, rfl⟩ := upd_of (show x 0 = .agg #[.int .i64 1, .int .i64 10000] from hd 0 _ (by simp) rfl)
        obtain ⟨a14, e14, r14⟩ := hd 14 _ (by simp) rfl
        obtain ⟨x, rfl⟩ := upd_of (show x 14 = .slice a14 1 1 from e14)
        show wpOp Try.prog _ _ 15 K (⟨#[s 0, s 1, s 2, .pointer (some ⟨w.heap.size, 0, none⟩), .pointer (some ⟨(w.heap.size + 1), 0, none⟩), s 5, .pointer (some ⟨(w.heap.size + 1 + 1), 0, none⟩), .pointer (some ⟨(w.heap.size + 1 + 1 + 1), 0, none⟩), .int .i64 (flatS off hei slo pan top bot false k).lo, .int .i64 (lostL k false), .pointer (some ⟨b10, 0, none⟩), s 11, s 12, s 13, s 14, s 15, s 16, s 17, s 18, s 19, s 20, s 21, s 22, s 23, s 24, s 25, s 26, s 27, s 28, s 29, s 30, s 31, s 32, s 33, s 34, s 35, s 36, s 37, s 38, s 39, s 40, s 41, s 42, s 43, s 44, s 45, s 46, s 47, s 48, s 49, s 50, .agg #[.int .i64 1, .int .i64 10000], x 1, x 2, x 3, x 4, x 5, x 6, x 7, x 8, x 9, x 10, x 11, x 12, x 13, .slice a14 1 1, x 15], []⟩ : Act) v
        refine wpOp_step rfl (fun K' hK' => ?_)
        go_simp
        refine (meet_one ⟨1, 10000⟩ (((flatS off hei slo pan top bot false k).lo - (inS ll lh wl wh hl hh ol oh il ih k).hi).tdiv (lostL k false)) (((flatS off hei slo pan top bot false k).lo - (inS ll lh wl wh hl hh ol oh il ih k).lo).tdiv (lostL k false)) a14 1 v r14).mono ?_
        rintro e v' ⟨rfl, hg⟩
        exact hK' _ _ (hK _ _ hg (at_of rfl (rfl)))
    case fin7 =>
      rintro x v gv hd
      obtain ⟨x, rfl⟩ := upd_of (show x 15 = .agg #[.int .i64 (max 1 (((flatS off hei slo pan top bot false k).lo - (inS ll lh wl wh hl hh ol oh il ih k).hi).tdiv (lostL k false))), .int .i64 (min 10000 (((flatS off hei slo pan top bot false k).lo - (inS ll lh wl wh hl hh ol oh il ih k).lo).tdiv (lostL k false)))] from hd 15 _ (by omega) rfl)
      clear hd
      show wpList Try.prog _ _ (List.drop 16 _) (⟨#[s 0, s 1, s 2, .pointer (some ⟨w.heap.size, 0, none⟩), .pointer (some ⟨(w.heap.size + 1), 0, none⟩), s 5, .pointer (some ⟨(w.heap.size + 1 + 1), 0, none⟩), .pointer (some ⟨(w.heap.size + 1 + 1 + 1), 0, none⟩), .int .i64 (flatS off hei slo pan top bot false k).lo, .int .i64 (lostL k false), .pointer (some ⟨b10, 0, none⟩), s 11, s 12, s 13, s 14, s 15, s 16, s 17, s 18, s 19, s 20, s 21, s 22, s 23, s 24, s 25, s 26, s 27, s 28, s 29, s 30, s 31, s 32, s 33, s 34, s 35, s 36, s 37, s 38, s 39, s 40, s 41, s 42, s 43, s 44, s 45, s 46, s 47, s 48, s 49, s 50, x 0, x 1, x 2, x 3, x 4, x 5, x 6, x 7, x 8, x 9, x 10, x 11, x 12, x 13, x 14, .agg #[.int .i64 (max 1 (((flatS off hei slo pan top bot false k).lo - (inS ll lh wl wh hl hh ol oh il ih k).hi).tdiv (lostL k false))), .int .i64 (min 10000 (((flatS off hei slo pan top bot false k).lo - (inS ll lh wl wh hl hh ol oh il ih k).lo).tdiv (lostL k false)))]], []⟩ : Act) v
      simp only [List.drop_succ_cons, List.drop_zero]
      have ob := oR.keep gv
      have gW := gg.tr gv
      obtain ⟨u0, u1⟩ := ob.1.c2
      have z0 := ob.2 0
      have z1 := ob.2 1
      clear v0 v1 v2 v3
      go_wp2
      have o1 := ((ob.set (i := 0) (v := .int .i64 (max 1 (((flatS off hei slo pan top bot false k).lo - (inS ll lh wl wh hl hh ol oh il ih k).hi).tdiv (lostL k false)))) (by simp)).set (i := 1) (v := .int .i64 (min 10000 (((flatS off hei slo pan top bot false k).lo - (inS ll lh wl wh hl hh ol oh il ih k).lo).tdiv (lostL k false)))) (by simp)).1.c2
      obtain ⟨o10, o11⟩ := o1
      refine bodyPost_ret (v := .agg #[.int .i64 (max 1 (((flatS off hei slo pan top bot false k).lo - (inS ll lh wl wh hl hh ol oh il ih k).hi).tdiv (lostL k false))), .int .i64 (min 10000 (((flatS off hei slo pan top bot false k).lo - (inS ll lh wl wh hl hh ol oh il ih k).lo).tdiv (lostL k false)))]) (by simp [results, Try.results53, go_sem, o10, o11]) rfl ⟨rfl, ?_⟩
      exact (gW.setCell (by simp; omega) _).setCell (by simp; omega) _

set_option maxRecDepth 100000 in
set_option maxHeartbeats 4000000 in
theorem hold_tx (tab hei slo off : Int) (pan top bot : List Int) (pa ta ba : Option Addr) (pc tc bc : Nat) (wo : Bool) (ll lh wl wh hl hh ol oh il ih : Int) (k : Nat) (hk : k < 10) (G : ShB hei slo pan top bot) (H : GoodWish ll lh wl wh hl hh ol oh il ih) (h2 : 0 ≤ off) (h3 : off ≤ 3000) (k5 : ((k : Int) == 5) = false) (k6 : ((k : Int) == 6) = false) (w : World) (hp : IRow w pa pan) (ht : IRow w ta top) (hb : IRow w ba bot) :
    Calls Try.prog 53 #[.agg #[.int .i64 tab, .slice pa pan.length pc, .int .i64 hei, .slice ta top.length tc, .slice ba bot.length bc, .int .i64 slo, .bool true, .int .i64 off, .slice ta top.length tc, .slice ba bot.length bc], .agg #[.int .i64 ll, .int .i64 lh, .int .i64 wl, .int .i64 wh, .int .i64 hl, .int .i64 hh, .int .i64 ol, .int .i64 oh, .int .i64 il, .int .i64 ih, .bool wo], .int .i64 k] w fun e w' => e = .returned (.agg #[.int .i64 (max 1 (((flatS off hei slo pan top bot true k).lo - (inS ll lh wl wh hl hh ol oh il ih k).hi).tdiv (lostL k true))), .int .i64 (min 10000 (((flatS off hei slo pan top bot true k).lo - (inS ll lh wl wh hl hh ol oh il ih k).lo).tdiv (lostL k true)))]) ∧ Gr w w' := by
  have gg := (((Gr.al w (.cells #[.int .i64 tab, .slice pa pan.length pc, .int .i64 hei, .slice ta top.length tc, .slice ba bot.length bc, .int .i64 slo, .bool true, .int .i64 off, .slice ta top.length tc, .slice ba bot.length bc] 124)).tr (Gr.al _ (.cells #[.int .i64 ll, .int .i64 lh, .int .i64 wl, .int .i64 wh, .int .i64 hl, .int .i64 hh, .int .i64 ol, .int .i64 oh, .int .i64 il, .int .i64 ih, .bool wo] 130))).tr (Gr.al _ (.cells #[.int .i64 0, .int .i64 0] 38))).tr (Gr.al _ (.cells #[.int .i64 1, .int .i64 10000] 38))
  have hX := (((Box.new w [.int .i64 tab, .slice pa pan.length pc, .int .i64 hei, .slice ta top.length tc, .slice ba bot.length bc, .int .i64 slo, .bool true, .int .i64 off, .slice ta top.length tc, .slice ba bot.length bc] 124 w.heap.size rfl).keep (Gr.al _ (.cells #[.int .i64 ll, .int .i64 lh, .int .i64 wl, .int .i64 wh, .int .i64 hl, .int .i64 hh, .int .i64 ol, .int .i64 oh, .int .i64 il, .int .i64 ih, .bool wo] 130))).keep (Gr.al _ (.cells #[.int .i64 0, .int .i64 0] 38))).keep (Gr.al _ (.cells #[.int .i64 1, .int .i64 10000] 38))
  have hW := ((Box.new (w.alloc (.cells #[.int .i64 tab, .slice pa pan.length pc, .int .i64 hei, .slice ta top.length tc, .slice ba bot.length bc, .int .i64 slo, .bool true, .int .i64 off, .slice ta top.length tc, .slice ba bot.length bc] 124)) [.int .i64 ll, .int .i64 lh, .int .i64 wl, .int .i64 wh, .int .i64 hl, .int .i64 hh, .int .i64 ol, .int .i64 oh, .int .i64 il, .int .i64 ih, .bool wo] 130 (w.heap.size + 1) (by simp)).keep (Gr.al _ (.cells #[.int .i64 0, .int .i64 0] 38))).keep (Gr.al _ (.cells #[.int .i64 1, .int .i64 10000] 38))
  have oR := (Own.new ((w.alloc (.cells #[.int .i64 tab, .slice pa pan.length pc, .int .i64 hei, .slice ta top.length tc, .slice ba bot.length bc, .int .i64 slo, .bool true, .int .i64 off, .slice ta top.length tc, .slice ba bot.length bc] 124)).alloc (.cells #[.int .i64 ll, .int .i64 lh, .int .i64 wl, .int .i64 wh, .int .i64 hl, .int .i64 hh, .int .i64 ol, .int .i64 oh, .int .i64 il, .int .i64 ih, .bool wo] 130)) [.int .i64 0, .int .i64 0] 38 (w.heap.size + 1 + 1) (by simp)).keep (Gr.al _ (.cells #[.int .i64 1, .int .i64 10000] 38))
  have hA := Own.new (((w.alloc (.cells #[.int .i64 tab, .slice pa pan.length pc, .int .i64 hei, .slice ta top.length tc, .slice ba bot.length bc, .int .i64 slo, .bool true, .int .i64 off, .slice ta top.length tc, .slice ba bot.length bc] 124)).alloc (.cells #[.int .i64 ll, .int .i64 lh, .int .i64 wl, .int .i64 wh, .int .i64 hl, .int .i64 hh, .int .i64 ol, .int .i64 oh, .int .i64 il, .int .i64 ih, .bool wo] 130)).alloc (.cells #[.int .i64 0, .int .i64 0] 38)) [.int .i64 1, .int .i64 10000] 38 (w.heap.size + 1 + 1 + 1) (by simp)
  have q6 := hX.2 6 _ rfl
  have p10 := hW.2 10 _ rfl
  have HG := Lib.hid G
  have HH := Lib.hid H
  obtain ⟨f0, f1, f2, f3⟩ := flatS_bd (opn := true) G h2 h3 hk
  obtain ⟨i0, i1, i2, i3⟩ := inS_bd H k
  obtain ⟨m0, m1⟩ := tdiv_bd (lostL_12 k true) (x := (flatS off hei slo pan top bot true k).lo - (inS ll lh wl wh hl hh ol oh il ih k).hi) (by omega) (by omega)
  obtain ⟨r0, r1⟩ := tdiv_bd (lostL_12 k true) (x := (flatS off hei slo pan top bot true k).lo - (inS ll lh wl wh hl hh ol oh il ih k).lo) (by omega) (by omega)
  have hz2 : ¬ lostL k true = 0 := by rcases lostL_12 k true with e | e <;> rw [e] <;> decide
  clear G H
  go_enter Try.func53, Try.ntmps53
  go_upto_region 6 with fail
  clear q6 p10
  refine wp_abs (fun W => Gr w W ∧ Box W w.heap.size [.int .i64 tab, .slice pa pan.length pc, .int .i64 hei, .slice ta top.length tc, .slice ba bot.length bc, .int .i64 slo, .bool true, .int .i64 off, .slice ta top.length tc, .slice ba bot.length bc] ∧ Box W (w.heap.size + 1) [.int .i64 ll, .int .i64 lh, .int .i64 wl, .int .i64 wh, .int .i64 hl, .int .i64 hh, .int .i64 ol, .int .i64 oh, .int .i64 il, .int .i64 ih, .bool wo] ∧ Own W (w.heap.size + 1 + 1) [.int .i64 0, .int .i64 0] ∧ Own W (w.heap.size + 1 + 1 + 1) [.int .i64 1, .int .i64 10000]) ⟨gg, hX, hW, oR, hA⟩ ?_
  clear gg hX hW oR hA
  rintro W ⟨gg, hX, hW, oR, hA⟩
  have oR0 := oR
  have hA0 := hA
  refine (show (∀ s : Nat → Value, Code.wp Try.prog _ _ ⟨#[s 0, s 1, .int .i64 k, .pointer (some ⟨w.heap.size, 0, none⟩), .pointer (some ⟨(w.heap.size + 1), 0, none⟩), s 5, .pointer (some ⟨(w.heap.size + 1 + 1), 0, none⟩), .pointer (some ⟨(w.heap.size + 1 + 1 + 1), 0, none⟩), undef, undef, undef, s 11, s 12, s 13, s 14, s 15, s 16, s 17, s 18, s 19, s 20, s 21, s 22, s 23, s 24, s 25, s 26, s 27, s 28, s 29, s 30, s 31, s 32, s 33, s 34, s 35, s 36, s 37, s 38, s 39, s 40, undef, undef, undef, undef, undef, undef, undef, undef, undef, undef, undef, undef, undef, undef, undef, undef, undef, undef, undef, undef, undef, undef, undef, undef, undef, undef], []⟩ _) → _ from fun h => h ((fun l : List Value => fun i => l.getD i undef) [_, _, undef, undef, undef, _, undef, undef, undef, undef, undef, _, _, _, _, _, _, _, _, _, _, _, _, _, _, _, _, _, _, _, _, _, _, _, _, _, _, _, _, _, _])) ?_
  intro s
  dsimp only
  refine wp_region_facts 11 [(2, 0), (2, 1), (3, 2), (6, 4), (6, 5), (9, 7), (9, 8)] (fun x => ⟨#[s 0, s 1, .int .i64 k, .pointer (some ⟨w.heap.size, 0, none⟩), .pointer (some ⟨(w.heap.size + 1), 0, none⟩), s 5, .pointer (some ⟨(w.heap.size + 1 + 1), 0, none⟩), .pointer (some ⟨(w.heap.size + 1 + 1 + 1), 0, none⟩), undef, undef, x 10, s 11, s 12, s 13, s 14, s 15, s 16, s 17, s 18, s 19, s 20, s 21, s 22, s 23, s 24, s 25, s 26, s 27, s 28, s 29, s 30, s 31, s 32, s 33, s 34, s 35, s 36, s 37, s 38, s 39, s 40, x 0, x 1, x 2, x 3, x 4, x 5, x 6, x 7, x 8, x 9, undef, undef, undef, undef, undef, undef, undef, undef, undef, undef, undef, undef, undef, undef, undef, undef], []⟩) (fun _ => undef) [fun _ x => x = .agg #[.int .i64 tab, .slice pa pan.length pc, .int .i64 hei, .slice ta top.length tc, .slice ba bot.length bc, .int .i64 slo, .bool true, .int .i64 off, .slice ta top.length tc, .slice ba bot.length bc], fun _ x => x = .int .i64 k, fun _ x => x = .agg #[.int .i64 (flatS off hei slo pan top bot true k).lo, .int .i64 (flatS off hei slo pan top bot true k).hi], fun _ x => x = .int .i64 (flatS off hei slo pan top bot true k).lo, fun _ x => x = .agg #[.int .i64 tab, .slice pa pan.length pc, .int .i64 hei, .slice ta top.length tc, .slice ba bot.length bc, .int .i64 slo, .bool true, .int .i64 off, .slice ta top.length tc, .slice ba bot.length bc], fun _ x => x = .int .i64 k, fun _ x => x = .int .i64 (lostL k true), fun _ x => x = .agg #[.int .i64 ll, .int .i64 lh, .int .i64 wl, .int .i64 wh, .int .i64 hl, .int .i64 hh, .int .i64 ol, .int .i64 oh, .int .i64 il, .int .i64 ih, .bool wo], fun _ x => x = .int .i64 k, fun _ x => x = .agg #[.int .i64 (inS ll lh wl wh hl hh ol oh il ih k).lo, .int .i64 (inS ll lh wl wh hl hh ol oh il ih k).hi], fun v x => ∃ b, x = .pointer (some ⟨b, 0, none⟩) ∧ W.heap.size ≤ b ∧ Own v b [.int .i64 0, .int .i64 0]] (by rfl) (by kernel_rfl) (by kernel_rfl) (by kernel_rfl) (stays_cons (Stays.eq _) (stays_cons (Stays.eq _) (stays_cons (Stays.eq _) (stays_cons (Stays.eq _) (stays_cons (Stays.eq _) (stays_cons (Stays.eq _) (stays_cons (Stays.eq _) (stays_cons (Stays.eq _) (stays_cons (Stays.eq _) (stays_cons (Stays.eq _) (stays_cons (fun v v' x g ⟨b, e, h, o⟩ => ⟨b, e, h, o.keep g⟩) stays_nil))))))))))) ?step6 ?fin6
  case step6 =>
    rintro i hi x v gv hd K hK
    have hi8 : i = 0 ∨ i = 1 ∨ i = 2 ∨ i = 3 ∨ i = 4 ∨ i = 5 ∨ i = 6 ∨ i = 7 ∨ i = 8 ∨ i = 9 ∨ i = 10 := by omega
    rcases hi8 with rfl | rfl | rfl | rfl | rfl | rfl | rfl | rfl | rfl | rfl | rfl
    · show wpOp Try.prog _ _ 0 K (⟨#[s 0, s 1, .int .i64 k, .pointer (some ⟨w.heap.size, 0, none⟩), .pointer (some ⟨(w.heap.size + 1), 0, none⟩), s 5, .pointer (some ⟨(w.heap.size + 1 + 1), 0, none⟩), .pointer (some ⟨(w.heap.size + 1 + 1 + 1), 0, none⟩), undef, undef, x 10, s 11, s 12, s 13, s 14, s 15, s 16, s 17, s 18, s 19, s 20, s 21, s 22, s 23, s 24, s 25, s 26, s 27, s 28, s 29, s 30, s 31, s 32, s 33, s 34, s 35, s 36, s 37, s 38, s 39, s 40, x 0, x 1, x 2, x 3, x 4, x 5, x 6, x 7, x 8, x 9, undef, undef, undef, undef, undef, undef, undef, undef, undef, undef, undef, undef, undef, undef, undef, undef], []⟩ : Act) v
      refine wpOp_step rfl (fun K' hK' => ?_)
      rw [if_pos (by rfl)]
      refine wp_load_mid 124 _ rfl w.heap.size 0 (by rfl) [.int .i64 tab, .slice pa pan.length pc, .int .i64 hei, .slice ta top.length tc, .slice ba bot.length bc, .int .i64 slo, .bool true, .int .i64 off, .slice ta top.length tc, .slice ba bot.length bc] _ (fun j u hu => by rw [Nat.zero_add]; exact (hX.keep gv).2 j u hu) Try.underlying124 rfl (by kernel_rfl) ?_
      exact hK' _ _ (hK _ _ (Below.refl _ _) (at_of rfl (rfl)))
    · show wpOp Try.prog _ _ 1 K (⟨#[s 0, s 1, .int .i64 k, .pointer (some ⟨w.heap.size, 0, none⟩), .pointer (some ⟨(w.heap.size + 1), 0, none⟩), s 5, .pointer (some ⟨(w.heap.size + 1 + 1), 0, none⟩), .pointer (some ⟨(w.heap.size + 1 + 1 + 1), 0, none⟩), undef, undef, x 10, s 11, s 12, s 13, s 14, s 15, s 16, s 17, s 18, s 19, s 20, s 21, s 22, s 23, s 24, s 25, s 26, s 27, s 28, s 29, s 30, s 31, s 32, s 33, s 34, s 35, s 36, s 37, s 38, s 39, s 40, x 0, x 1, x 2, x 3, x 4, x 5, x 6, x 7, x 8, x 9, undef, undef, undef, undef, undef, undef, undef, undef, undef, undef, undef, undef, undef, undef, undef, undef], []⟩ : Act) v
      refine wpOp_step rfl (fun K' hK' => ?_)
      go_simp
      exact hK' _ _ (hK _ _ (Below.refl _ _) (at_of rfl (rfl)))
    · obtain ⟨x, rfl⟩ := upd_of (show x 0 = .agg #[.int .i64 tab, .slice pa pan.length pc, .int .i64 hei, .slice ta top.length tc, .slice ba bot.length bc, .int .i64 slo, .bool true, .int .i64 off, .slice ta top.length tc, .slice ba bot.length bc] from hd 0 _ (by simp) rfl)
      obtain ⟨x, rfl⟩ := upd_of (show x 1 = .int .i64 k from hd 1 _ (by simp) rfl)
      show wpOp Try.prog _ _ 2 K (⟨#[s 0, s 1, .int .i64 k, .pointer (some ⟨w.heap.size, 0, none⟩), .pointer (some ⟨(w.heap.size + 1), 0, none⟩), s 5, .pointer (some ⟨(w.heap.size + 1 + 1), 0, none⟩), .pointer (some ⟨(w.heap.size + 1 + 1 + 1), 0, none⟩), undef, undef, x 10, s 11, s 12, s 13, s 14, s 15, s 16, s 17, s 18, s 19, s 20, s 21, s 22, s 23, s 24, s 25, s 26, s 27, s 28, s 29, s 30, s 31, s 32, s 33, s 34, s 35, s 36, s 37, s 38, s 39, s 40, .agg #[.int .i64 tab, .slice pa pan.length pc, .int .i64 hei, .slice ta top.length tc, .slice ba bot.length bc, .int .i64 slo, .bool true, .int .i64 off, .slice ta top.length tc, .slice ba bot.length bc], .int .i64 k, x 2, x 3, x 4, x 5, x 6, x 7, x 8, x 9, undef, undef, undef, undef, undef, undef, undef, undef, undef, undef, undef, undef, undef, undef, undef, undef], []⟩ : Act) v
      refine wpOp_step rfl (fun K' hK' => ?_)
      go_simp
      refine (flatS_all _ _ _ _ _ _ _ _ _ _ _ _ _ _ HG.out h2 h3 k hk v (hp.grow (gg.tr gv)) (ht.grow (gg.tr gv)) (hb.grow (gg.tr gv))).mono ?_
      rintro e v' ⟨rfl, hg⟩
      exact hK' _ _ (hK _ _ hg (at_of rfl (rfl)))
    · obtain ⟨x, rfl⟩ := upd_of (show x 2 = .agg #[.int .i64 (flatS off hei slo pan top bot true k).lo, .int .i64 (flatS off hei slo pan top bot true k).hi] from hd 2 _ (by simp) rfl)
      show wpOp Try.prog _ _ 3 K (⟨#[s 0, s 1, .int .i64 k, .pointer (some ⟨w.heap.size, 0, none⟩), .pointer (some ⟨(w.heap.size + 1), 0, none⟩), s 5, .pointer (some ⟨(w.heap.size + 1 + 1), 0, none⟩), .pointer (some ⟨(w.heap.size + 1 + 1 + 1), 0, none⟩), undef, undef, x 10, s 11, s 12, s 13, s 14, s 15, s 16, s 17, s 18, s 19, s 20, s 21, s 22, s 23, s 24, s 25, s 26, s 27, s 28, s 29, s 30, s 31, s 32, s 33, s 34, s 35, s 36, s 37, s 38, s 39, s 40, x 0, x 1, .agg #[.int .i64 (flatS off hei slo pan top bot true k).lo, .int .i64 (flatS off hei slo pan top bot true k).hi], x 3, x 4, x 5, x 6, x 7, x 8, x 9, undef, undef, undef, undef, undef, undef, undef, undef, undef, undef, undef, undef, undef, undef, undef, undef], []⟩ : Act) v
      refine wpOp_step rfl (fun K' hK' => ?_)
      have q := fieldSp_0 (.int .i64 (flatS off hei slo pan top bot true k).lo) (.int .i64 (flatS off hei slo pan top bot true k).hi) v
      go_simp
      exact hK' _ _ (hK _ _ (Below.refl _ _) (at_of rfl (rfl)))
    · show wpOp Try.prog _ _ 4 K (⟨#[s 0, s 1, .int .i64 k, .pointer (some ⟨w.heap.size, 0, none⟩), .pointer (some ⟨(w.heap.size + 1), 0, none⟩), s 5, .pointer (some ⟨(w.heap.size + 1 + 1), 0, none⟩), .pointer (some ⟨(w.heap.size + 1 + 1 + 1), 0, none⟩), undef, undef, x 10, s 11, s 12, s 13, s 14, s 15, s 16, s 17, s 18, s 19, s 20, s 21, s 22, s 23, s 24, s 25, s 26, s 27, s 28, s 29, s 30, s 31, s 32, s 33, s 34, s 35, s 36, s 37, s 38, s 39, s 40, x 0, x 1, x 2, x 3, x 4, x 5, x 6, x 7, x 8, x 9, undef, undef, undef, undef, undef, undef, undef, undef, undef, undef, undef, undef, undef, undef, undef, undef], []⟩ : Act) v
      refine wpOp_step rfl (fun K' hK' => ?_)
      rw [if_pos (by rfl)]
      refine wp_load_mid 124 _ rfl w.heap.size 0 (by rfl) [.int .i64 tab, .slice pa pan.length pc, .int .i64 hei, .slice ta top.length tc, .slice ba bot.length bc, .int .i64 slo, .bool true, .int .i64 off, .slice ta top.length tc, .slice ba bot.length bc] _ (fun j u hu => by rw [Nat.zero_add]; exact (hX.keep gv).2 j u hu) Try.underlying124 rfl (by kernel_rfl) ?_
      exact hK' _ _ (hK _ _ (Below.refl _ _) (at_of rfl (rfl)))
    · show wpOp Try.prog _ _ 5 K (⟨#[s 0, s 1, .int .i64 k, .pointer (some ⟨w.heap.size, 0, none⟩), .pointer (some ⟨(w.heap.size + 1), 0, none⟩), s 5, .pointer (some ⟨(w.heap.size + 1 + 1), 0, none⟩), .pointer (some ⟨(w.heap.size + 1 + 1 + 1), 0, none⟩), undef, undef, x 10, s 11, s 12, s 13, s 14, s 15, s 16, s 17, s 18, s 19, s 20, s 21, s 22, s 23, s 24, s 25, s 26, s 27, s 28, s 29, s 30, s 31, s 32, s 33, s 34, s 35, s 36, s 37, s 38, s 39, s 40, x 0, x 1, x 2, x 3, x 4, x 5, x 6, x 7, x 8, x 9, undef, undef, undef, undef, undef, undef, undef, undef, undef, undef, undef, undef, undef, undef, undef, undef], []⟩ : Act) v
      refine wpOp_step rfl (fun K' hK' => ?_)
      go_simp
      exact hK' _ _ (hK _ _ (Below.refl _ _) (at_of rfl (rfl)))
    · obtain ⟨x, rfl⟩ := upd_of (show x 4 = .agg #[.int .i64 tab, .slice pa pan.length pc, .int .i64 hei, .slice ta top.length tc, .slice ba bot.length bc, .int .i64 slo, .bool true, .int .i64 off, .slice ta top.length tc, .slice ba bot.length bc] from hd 4 _ (by simp) rfl)
      obtain ⟨x, rfl⟩ := upd_of (show x 5 = .int .i64 k from hd 5 _ (by simp) rfl)
      show wpOp Try.prog _ _ 6 K (⟨#[s 0, s 1, .int .i64 k, .pointer (some ⟨w.heap.size, 0, none⟩), .pointer (some ⟨(w.heap.size + 1), 0, none⟩), s 5, .pointer (some ⟨(w.heap.size + 1 + 1), 0, none⟩), .pointer (some ⟨(w.heap.size + 1 + 1 + 1), 0, none⟩), undef, undef, x 10, s 11, s 12, s 13, s 14, s 15, s 16, s 17, s 18, s 19, s 20, s 21, s 22, s 23, s 24, s 25, s 26, s 27, s 28, s 29, s 30, s 31, s 32, s 33, s 34, s 35, s 36, s 37, s 38, s 39, s 40, x 0, x 1, x 2, x 3, .agg #[.int .i64 tab, .slice pa pan.length pc, .int .i64 hei, .slice ta top.length tc, .slice ba bot.length bc, .int .i64 slo, .bool true, .int .i64 off, .slice ta top.length tc, .slice ba bot.length bc], .int .i64 k, x 6, x 7, x 8, x 9, undef, undef, undef, undef, undef, undef, undef, undef, undef, undef, undef, undef, undef, undef, undef, undef], []⟩ : Act) v
      refine wpOp_step rfl (fun K' hK' => ?_)
      go_simp
      refine (lost_any _ _ _ _ _ _ _ _ _ _ _ _ _ _ k v).mono ?_
      rintro e v' ⟨rfl, hg⟩
      exact hK' _ _ (hK _ _ hg (at_of rfl (rfl)))
    · show wpOp Try.prog _ _ 7 K (⟨#[s 0, s 1, .int .i64 k, .pointer (some ⟨w.heap.size, 0, none⟩), .pointer (some ⟨(w.heap.size + 1), 0, none⟩), s 5, .pointer (some ⟨(w.heap.size + 1 + 1), 0, none⟩), .pointer (some ⟨(w.heap.size + 1 + 1 + 1), 0, none⟩), undef, undef, x 10, s 11, s 12, s 13, s 14, s 15, s 16, s 17, s 18, s 19, s 20, s 21, s 22, s 23, s 24, s 25, s 26, s 27, s 28, s 29, s 30, s 31, s 32, s 33, s 34, s 35, s 36, s 37, s 38, s 39, s 40, x 0, x 1, x 2, x 3, x 4, x 5, x 6, x 7, x 8, x 9, undef, undef, undef, undef, undef, undef, undef, undef, undef, undef, undef, undef, undef, undef, undef, undef], []⟩ : Act) v
      refine wpOp_step rfl (fun K' hK' => ?_)
      rw [if_pos (by rfl)]
      refine wp_load_mid 130 _ rfl (w.heap.size + 1) 0 (by rfl) [.int .i64 ll, .int .i64 lh, .int .i64 wl, .int .i64 wh, .int .i64 hl, .int .i64 hh, .int .i64 ol, .int .i64 oh, .int .i64 il, .int .i64 ih, .bool wo] _ (fun j u hu => by rw [Nat.zero_add]; exact (hW.keep gv).2 j u hu) Try.underlying130 rfl (by kernel_rfl) ?_
      exact hK' _ _ (hK _ _ (Below.refl _ _) (at_of rfl (rfl)))
    · show wpOp Try.prog _ _ 8 K (⟨#[s 0, s 1, .int .i64 k, .pointer (some ⟨w.heap.size, 0, none⟩), .pointer (some ⟨(w.heap.size + 1), 0, none⟩), s 5, .pointer (some ⟨(w.heap.size + 1 + 1), 0, none⟩), .pointer (some ⟨(w.heap.size + 1 + 1 + 1), 0, none⟩), undef, undef, x 10, s 11, s 12, s 13, s 14, s 15, s 16, s 17, s 18, s 19, s 20, s 21, s 22, s 23, s 24, s 25, s 26, s 27, s 28, s 29, s 30, s 31, s 32, s 33, s 34, s 35, s 36, s 37, s 38, s 39, s 40, x 0, x 1, x 2, x 3, x 4, x 5, x 6, x 7, x 8, x 9, undef, undef, undef, undef, undef, undef, undef, undef, undef, undef, undef, undef, undef, undef, undef, undef], []⟩ : Act) v
      refine wpOp_step rfl (fun K' hK' => ?_)
      go_simp
      exact hK' _ _ (hK _ _ (Below.refl _ _) (at_of rfl (rfl)))
    · obtain ⟨x, rfl⟩ := upd_of (show x 7 = .agg #[.int .i64 ll, .int .i64 lh, .int .i64 wl, .int .i64 wh, .int .i64 hl, .int .i64 hh, .int .i64 ol, .int .i64 oh, .int .i64 il, .int .i64 ih, .bool wo] from hd 7 _ (by simp) rfl)
      obtain ⟨x, rfl⟩ := upd_of (show x 8 = .int .i64 k from hd 8 _ (by simp) rfl)
      show wpOp Try.prog _ _ 9 K (⟨#[s 0, s 1, .int .i64 k, .pointer (some ⟨w.heap.size, 0, none⟩), .pointer (some ⟨(w.heap.size + 1), 0, none⟩), s 5, .pointer (some ⟨(w.heap.size + 1 + 1), 0, none⟩), .pointer (some ⟨(w.heap.size + 1 + 1 + 1), 0, none⟩), undef, undef, x 10, s 11, s 12, s 13, s 14, s 15, s 16, s 17, s 18, s 19, s 20, s 21, s 22, s 23, s 24, s 25, s 26, s 27, s 28, s 29, s 30, s 31, s 32, s 33, s 34, s 35, s 36, s 37, s 38, s 39, s 40, x 0, x 1, x 2, x 3, x 4, x 5, x 6, .agg #[.int .i64 ll, .int .i64 lh, .int .i64 wl, .int .i64 wh, .int .i64 hl, .int .i64 hh, .int .i64 ol, .int .i64 oh, .int .i64 il, .int .i64 ih, .bool wo], .int .i64 k, x 9, undef, undef, undef, undef, undef, undef, undef, undef, undef, undef, undef, undef, undef, undef, undef, undef], []⟩ : Act) v
      refine wpOp_step rfl (fun K' hK' => ?_)
      go_simp
      refine (in_any ll lh wl wh hl hh ol oh il ih wo HH.out k hk v).mono ?_
      rintro e v' ⟨rfl, hg⟩
      exact hK' _ _ (hK _ _ hg (at_of rfl (rfl)))
    · show wpOp Try.prog _ _ 10 K (⟨#[s 0, s 1, .int .i64 k, .pointer (some ⟨w.heap.size, 0, none⟩), .pointer (some ⟨(w.heap.size + 1), 0, none⟩), s 5, .pointer (some ⟨(w.heap.size + 1 + 1), 0, none⟩), .pointer (some ⟨(w.heap.size + 1 + 1 + 1), 0, none⟩), undef, undef, x 10, s 11, s 12, s 13, s 14, s 15, s 16, s 17, s 18, s 19, s 20, s 21, s 22, s 23, s 24, s 25, s 26, s 27, s 28, s 29, s 30, s 31, s 32, s 33, s 34, s 35, s 36, s 37, s 38, s 39, s 40, x 0, x 1, x 2, x 3, x 4, x 5, x 6, x 7, x 8, x 9, undef, undef, undef, undef, undef, undef, undef, undef, undef, undef, undef, undef, undef, undef, undef, undef], []⟩ : Act) v
      refine wpOp_step rfl (fun K' hK' => ?_)
      go_simp
      have hg := Gr.al v (.cells (List.toArray [.int .i64 0, .int .i64 0]) 38)
      exact hK' _ _ (hK _ _ hg (at_of rfl (⟨v.heap.size, rfl, gv.size, Own.new v [.int .i64 0, .int .i64 0] 38 v.heap.size rfl⟩)))
  case fin6 =>
    rintro x v gv hd
    obtain ⟨x, rfl⟩ := upd_of (show x 3 = .int .i64 (flatS off hei slo pan top bot true k).lo from hd 3 _ (by omega) rfl)
    obtain ⟨x, rfl⟩ := upd_of (show x 6 = .int .i64 (lostL k true) from hd 6 _ (by omega) rfl)
    obtain ⟨x, rfl⟩ := upd_of (show x 9 = .agg #[.int .i64 (inS ll lh wl wh hl hh ol oh il ih k).lo, .int .i64 (inS ll lh wl wh hl hh ol oh il ih k).hi] from hd 9 _ (by omega) rfl)
    obtain ⟨b10, e10, hb10, ow10⟩ := hd 10 _ (by omega) rfl
    obtain ⟨x, rfl⟩ := upd_of (show x 10 = .pointer (some ⟨b10, 0, none⟩) from e10)
    clear hd
    show wpList Try.prog _ _ (List.drop 11 _) (⟨#[s 0, s 1, .int .i64 k, .pointer (some ⟨w.heap.size, 0, none⟩), .pointer (some ⟨(w.heap.size + 1), 0, none⟩), s 5, .pointer (some ⟨(w.heap.size + 1 + 1), 0, none⟩), .pointer (some ⟨(w.heap.size + 1 + 1 + 1), 0, none⟩), undef, undef, .pointer (some ⟨b10, 0, none⟩), s 11, s 12, s 13, s 14, s 15, s 16, s 17, s 18, s 19, s 20, s 21, s 22, s 23, s 24, s 25, s 26, s 27, s 28, s 29, s 30, s 31, s 32, s 33, s 34, s 35, s 36, s 37, s 38, s 39, s 40, x 0, x 1, x 2, .int .i64 (flatS off hei slo pan top bot true k).lo, x 4, x 5, .int .i64 (lostL k true), x 7, x 8, .agg #[.int .i64 (inS ll lh wl wh hl hh ol oh il ih k).lo, .int .i64 (inS ll lh wl wh hl hh ol oh il ih k).hi], undef, undef, undef, undef, undef, undef, undef, undef, undef, undef, undef, undef, undef, undef, undef, undef], []⟩ : Act) v
    simp only [List.drop_succ_cons, List.drop_zero]
    have gW := gg.tr gv
    have hX := hX.keep gv
    have oR := oR.keep gv
    have hA := hA.keep gv
    have hbw := gg.size
    have hbX := oR.1.1
    have hbR := (show b10 ≠ (w.heap.size + 1 + 1) by have := oR0.1.1; omega)
    have hbA := (show b10 ≠ (w.heap.size + 1 + 1 + 1) by have := hA0.1.1; omega)
    obtain ⟨u0, u1⟩ := ow10.1.c2
    have z0 := ow10.2 0
    have z1 := ow10.2 1
    clear gg gv hW
    go_upto_region 7 with fail
    refine wp_abs (fun V => Gr w V ∧ Own V (w.heap.size + 1 + 1) [.int .i64 0, .int .i64 0] ∧ Own V (w.heap.size + 1 + 1 + 1) [.int .i64 1, .int .i64 10000] ∧ Box V b10 [.int .i64 (inS ll lh wl wh hl hh ol oh il ih k).lo, .int .i64 (inS ll lh wl wh hl hh ol oh il ih k).hi]) ⟨(gW.setCell (by simp; omega) _).setCell (by simp; omega) _, (oR.other (by omega)).other (by omega), (hA.other (by omega)).other (by omega), ((ow10.set (i := 0) (by simp)).set (i := 1) (by simp)).1⟩ ?_
    clear gW oR hA ow10 u0 u1 z0 z1 hX
    rintro V ⟨gg, oR, hA, hI⟩
    have v0 : IntKind.i64.wrap ((flatS off hei slo pan top bot true k).lo - (inS ll lh wl wh hl hh ol oh il ih k).hi) = (flatS off hei slo pan top bot true k).lo - (inS ll lh wl wh hl hh ol oh il ih k).hi := IntWalk.i64_in _ (by omega)
    have v1 : IntKind.i64.wrap ((flatS off hei slo pan top bot true k).lo - (inS ll lh wl wh hl hh ol oh il ih k).lo) = (flatS off hei slo pan top bot true k).lo - (inS ll lh wl wh hl hh ol oh il ih k).lo := IntWalk.i64_in _ (by omega)
    have v2 : IntKind.i64.wrap (((flatS off hei slo pan top bot true k).lo - (inS ll lh wl wh hl hh ol oh il ih k).hi).tdiv (lostL k true)) = ((flatS off hei slo pan top bot true k).lo - (inS ll lh wl wh hl hh ol oh il ih k).hi).tdiv (lostL k true) := IntWalk.i64_in _ (by omega)
    have v3 : IntKind.i64.wrap (((flatS off hei slo pan top bot true k).lo - (inS ll lh wl wh hl hh ol oh il ih k).lo).tdiv (lostL k true)) = ((flatS off hei slo pan top bot true k).lo - (inS ll lh wl wh hl hh ol oh il ih k).lo).tdiv (lostL k true) := IntWalk.i64_in _ (by omega)
    refine (show (∀ s : Nat → Value, Code.wp Try.prog _ _ ⟨#[s 0, s 1, s 2, .pointer (some ⟨w.heap.size, 0, none⟩), .pointer (some ⟨(w.heap.size + 1), 0, none⟩), s 5, .pointer (some ⟨(w.heap.size + 1 + 1), 0, none⟩), .pointer (some ⟨(w.heap.size + 1 + 1 + 1), 0, none⟩), .int .i64 (flatS off hei slo pan top bot true k).lo, .int .i64 (lostL k true), .pointer (some ⟨b10, 0, none⟩), s 11, s 12, s 13, s 14, s 15, s 16, s 17, s 18, s 19, s 20, s 21, s 22, s 23, s 24, s 25, s 26, s 27, s 28, s 29, s 30, s 31, s 32, s 33, s 34, s 35, s 36, s 37, s 38, s 39, s 40, s 41, s 42, s 43, s 44, s 45, s 46, s 47, s 48, s 49, s 50, undef, undef, undef, undef, undef, undef, undef, undef, undef, undef, undef, undef, undef, undef, undef, undef], []⟩ _) → _ from fun h => h ((fun l : List Value => fun i => l.getD i undef) [_, _, _, undef, undef, _, undef, undef, undef, undef, undef, _, _, _, _, _, _, _, _, _, _, _, _, _, _, _, _, _, _, _, _, _, _, _, _, _, _, _, _, _, _, _, _, _, _, _, _, _, _, _, _])) ?_
    clear s
    intro s
    dsimp only
    refine wp_region_facts 16 [(3, 2), (4, 1), (4, 3), (6, 4), (6, 5), (9, 8), (10, 7), (10, 9), (12, 10), (12, 11), (13, 6), (13, 12), (14, 13), (15, 0), (15, 14)] (fun x => ⟨#[s 0, s 1, s 2, .pointer (some ⟨w.heap.size, 0, none⟩), .pointer (some ⟨(w.heap.size + 1), 0, none⟩), s 5, .pointer (some ⟨(w.heap.size + 1 + 1), 0, none⟩), .pointer (some ⟨(w.heap.size + 1 + 1 + 1), 0, none⟩), .int .i64 (flatS off hei slo pan top bot true k).lo, .int .i64 (lostL k true), .pointer (some ⟨b10, 0, none⟩), s 11, s 12, s 13, s 14, s 15, s 16, s 17, s 18, s 19, s 20, s 21, s 22, s 23, s 24, s 25, s 26, s 27, s 28, s 29, s 30, s 31, s 32, s 33, s 34, s 35, s 36, s 37, s 38, s 39, s 40, s 41, s 42, s 43, s 44, s 45, s 46, s 47, s 48, s 49, s 50, x 0, x 1, x 2, x 3, x 4, x 5, x 6, x 7, x 8, x 9, x 10, x 11, x 12, x 13, x 14, x 15], []⟩) (fun _ => undef) [fun _ x => x = .agg #[.int .i64 1, .int .i64 10000], fun _ x => x = .int .i64 (flatS off hei slo pan top bot true k).lo, fun _ x => x = .pointer (some ⟨b10, 1, none⟩), fun _ x => x = .int .i64 (inS ll lh wl wh hl hh ol oh il ih k).hi, fun _ x => x = .int .i64 ((flatS off hei slo pan top bot true k).lo - (inS ll lh wl wh hl hh ol oh il ih k).hi), fun _ x => x = .int .i64 (lostL k true), fun _ x => x = .int .i64 (((flatS off hei slo pan top bot true k).lo - (inS ll lh wl wh hl hh ol oh il ih k).hi).tdiv (lostL k true)), fun _ x => x = .int .i64 (flatS off hei slo pan top bot true k).lo, fun _ x => x = .pointer (some ⟨b10, 0, none⟩), fun _ x => x = .int .i64 (inS ll lh wl wh hl hh ol oh il ih k).lo, fun _ x => x = .int .i64 ((flatS off hei slo pan top bot true k).lo - (inS ll lh wl wh hl hh ol oh il ih k).lo), fun _ x => x = .int .i64 (lostL k true), fun _ x => x = .int .i64 (((flatS off hei slo pan top bot true k).lo - (inS ll lh wl wh hl hh ol oh il ih k).lo).tdiv (lostL k true)), fun _ x => x = .agg #[.int .i64 (((flatS off hei slo pan top bot true k).lo - (inS ll lh wl wh hl hh ol oh il ih k).hi).tdiv (lostL k true)), .int .i64 (((flatS off hei slo pan top bot true k).lo - (inS ll lh wl wh hl hh ol oh il ih k).lo).tdiv (lostL k true))], fun v x => ∃ a, x = .slice a 1 1 ∧ SRow v a [⟨((flatS off hei slo pan top bot true k).lo - (inS ll lh wl wh hl hh ol oh il ih k).hi).tdiv (lostL k true), ((flatS off hei slo pan top bot true k).lo - (inS ll lh wl wh hl hh ol oh il ih k).lo).tdiv (lostL k true)⟩], fun _ x => x = .agg #[.int .i64 (max 1 (((flatS off hei slo pan top bot true k).lo - (inS ll lh wl wh hl hh ol oh il ih k).hi).tdiv (lostL k true))), .int .i64 (min 10000 (((flatS off hei slo pan top bot true k).lo - (inS ll lh wl wh hl hh ol oh il ih k).lo).tdiv (lostL k true)))]] (by rfl) (by kernel_rfl) (by kernel_rfl) (by kernel_rfl) (stays_cons (Stays.eq _) (stays_cons (Stays.eq _) (stays_cons (Stays.eq _) (stays_cons (Stays.eq _) (stays_cons (Stays.eq _) (stays_cons (Stays.eq _) (stays_cons (Stays.eq _) (stays_cons (Stays.eq _) (stays_cons (Stays.eq _) (stays_cons (Stays.eq _) (stays_cons (Stays.eq _) (stays_cons (Stays.eq _) (stays_cons (Stays.eq _) (stays_cons (Stays.eq _) (stays_cons (fun v v' x g ⟨a, e, r⟩ => ⟨a, e, r.grow g⟩) (stays_cons (Stays.eq _) stays_nil)))))))))))))))) ?step7 ?fin7
    case step7 =>
      rintro i hi x v gv hd K hK
      have hi8 : i = 0 ∨ i = 1 ∨ i = 2 ∨ i = 3 ∨ i = 4 ∨ i = 5 ∨ i = 6 ∨ i = 7 ∨ i = 8 ∨ i = 9 ∨ i = 10 ∨ i = 11 ∨ i = 12 ∨ i = 13 ∨ i = 14 ∨ i = 15 := by omega
      rcases hi8 with rfl | rfl | rfl | rfl | rfl | rfl | rfl | rfl | rfl | rfl | rfl | rfl | rfl | rfl | rfl | rfl
      · show wpOp Try.prog _ _ 0 K (⟨#[s 0, s 1, s 2, .pointer (some ⟨w.heap.size, 0, none⟩), .pointer (some ⟨(w.heap.size + 1), 0, none⟩), s 5, .pointer (some ⟨(w.heap.size + 1 + 1), 0, none⟩), .pointer (some ⟨(w.heap.size + 1 + 1 + 1), 0, none⟩), .int .i64 (flatS off hei slo pan top bot true k).lo, .int .i64 (lostL k true), .pointer (some ⟨b10, 0, none⟩), s 11, s 12, s 13, s 14, s 15, s 16, s 17, s 18, s 19, s 20, s 21, s 22, s 23, s 24, s 25, s 26, s 27, s 28, s 29, s 30, s 31, s 32, s 33, s 34, s 35, s 36, s 37, s 38, s 39, s 40, s 41, s 42, s 43, s 44, s 45, s 46, s 47, s 48, s 49, s 50, x 0, x 1, x 2, x 3, x 4, x 5, x 6, x 7, x 8, x 9, x 10, x 11, x 12, x 13, x 14, x 15], []⟩ : Act) v
        refine wpOp_step rfl (fun K' hK' => ?_)
        rw [if_pos (by rfl)]
        refine wp_load_mid 38 _ rfl (w.heap.size + 1 + 1 + 1) 0 (by rfl) [.int .i64 1, .int .i64 10000] _ (fun j u hu => by rw [Nat.zero_add]; exact (hA.1.keep gv).2 j u hu) Try.underlying38 rfl (by kernel_rfl) ?_
        exact hK' _ _ (hK _ _ (Below.refl _ _) (at_of rfl (rfl)))
      · show wpOp Try.prog _ _ 1 K (⟨#[s 0, s 1, s 2, .pointer (some ⟨w.heap.size, 0, none⟩), .pointer (some ⟨(w.heap.size + 1), 0, none⟩), s 5, .pointer (some ⟨(w.heap.size + 1 + 1), 0, none⟩), .pointer (some ⟨(w.heap.size + 1 + 1 + 1), 0, none⟩), .int .i64 (flatS off hei slo pan top bot true k).lo, .int .i64 (lostL k true), .pointer (some ⟨b10, 0, none⟩), s 11, s 12, s 13, s 14, s 15, s 16, s 17, s 18, s 19, s 20, s 21, s 22, s 23, s 24, s 25, s 26, s 27, s 28, s 29, s 30, s 31, s 32, s 33, s 34, s 35, s 36, s 37, s 38, s 39, s 40, s 41, s 42, s 43, s 44, s 45, s 46, s 47, s 48, s 49, s 50, x 0, x 1, x 2, x 3, x 4, x 5, x 6, x 7, x 8, x 9, x 10, x 11, x 12, x 13, x 14, x 15], []⟩ : Act) v
        refine wpOp_step rfl (fun K' hK' => ?_)
        go_simp
        exact hK' _ _ (hK _ _ (Below.refl _ _) (at_of rfl (rfl)))
      · show wpOp Try.prog _ _ 2 K (⟨#[s 0, s 1, s 2, .pointer (some ⟨w.heap.size, 0, none⟩), .pointer (some ⟨(w.heap.size + 1), 0, none⟩), s 5, .pointer (some ⟨(w.heap.size + 1 + 1), 0, none⟩), .pointer (some ⟨(w.heap.size + 1 + 1 + 1), 0, none⟩), .int .i64 (flatS off hei slo pan top bot true k).lo, .int .i64 (lostL k true), .pointer (some ⟨b10, 0, none⟩), s 11, s 12, s 13, s 14, s 15, s 16, s 17, s 18, s 19, s 20, s 21, s 22, s 23, s 24, s 25, s 26, s 27, s 28, s 29, s 30, s 31, s 32, s 33, s 34, s 35, s 36, s 37, s 38, s 39, s 40, s 41, s 42, s 43, s 44, s 45, s 46, s 47, s 48, s 49, s 50, x 0, x 1, x 2, x 3, x 4, x 5, x 6, x 7, x 8, x 9, x 10, x 11, x 12, x 13, x 14, x 15], []⟩ : Act) v
        refine wpOp_step rfl (fun K' hK' => ?_)
        go_simp
        exact hK' _ _ (hK _ _ (Below.refl _ _) (at_of rfl (rfl)))
      · obtain ⟨x, rfl⟩ := upd_of (show x 2 = .pointer (some ⟨b10, 1, none⟩) from hd 2 _ (by simp) rfl)
        show wpOp Try.prog _ _ 3 K (⟨#[s 0, s 1, s 2, .pointer (some ⟨w.heap.size, 0, none⟩), .pointer (some ⟨(w.heap.size + 1), 0, none⟩), s 5, .pointer (some ⟨(w.heap.size + 1 + 1), 0, none⟩), .pointer (some ⟨(w.heap.size + 1 + 1 + 1), 0, none⟩), .int .i64 (flatS off hei slo pan top bot true k).lo, .int .i64 (lostL k true), .pointer (some ⟨b10, 0, none⟩), s 11, s 12, s 13, s 14, s 15, s 16, s 17, s 18, s 19, s 20, s 21, s 22, s 23, s 24, s 25, s 26, s 27, s 28, s 29, s 30, s 31, s 32, s 33, s 34, s 35, s 36, s 37, s 38, s 39, s 40, s 41, s 42, s 43, s 44, s 45, s 46, s 47, s 48, s 49, s 50, x 0, x 1, .pointer (some ⟨b10, 1, none⟩), x 3, x 4, x 5, x 6, x 7, x 8, x 9, x 10, x 11, x 12, x 13, x 14, x 15], []⟩ : Act) v
        refine wpOp_step rfl (fun K' hK' => ?_)
        have q := (hI.keep gv).2 1 _ rfl
        go_simp
        exact hK' _ _ (hK _ _ (Below.refl _ _) (at_of rfl (rfl)))
      · obtain ⟨x, rfl⟩ := upd_of (show x 1 = .int .i64 (flatS off hei slo pan top bot true k).lo from hd 1 _ (by simp) rfl)
        obtain ⟨x, rfl⟩ := upd_of (show x 3 = .int .i64 (inS ll lh wl wh hl hh ol oh il ih k).hi from hd 3 _ (by simp) rfl)
        show wpOp Try.prog _ _ 4 K (⟨#[s 0, s 1, s 2, .pointer (some ⟨w.heap.size, 0, none⟩), .pointer (some ⟨(w.heap.size + 1), 0, none⟩), s 5, .pointer (some ⟨(w.heap.size + 1 + 1), 0, none⟩), .pointer (some ⟨(w.heap.size + 1 + 1 + 1), 0, none⟩), .int .i64 (flatS off hei slo pan top bot true k).lo, .int .i64 (lostL k true), .pointer (some ⟨b10, 0, none⟩), s 11, s 12, s 13, s 14, s 15, s 16, s 17, s 18, s 19, s 20, s 21, s 22, s 23, s 24, s 25, s 26, s 27, s 28, s 29, s 30, s 31, s 32, s 33, s 34, s 35, s 36, s 37, s 38, s 39, s 40, s 41, s 42, s 43, s 44, s 45, s 46, s 47, s 48, s 49, s 50, x 0, .int .i64 (flatS off hei slo pan top bot true k).lo, x 2, .int .i64 (inS ll lh wl wh hl hh ol oh il ih k).hi, x 4, x 5, x 6, x 7, x 8, x 9, x 10, x 11, x 12, x 13, x 14, x 15], []⟩ : Act) v
        refine wpOp_step rfl (fun K' hK' => ?_)
        go_simp
        exact hK' _ _ (hK _ _ (Below.refl _ _) (at_of rfl (rfl)))
      · show wpOp Try.prog _ _ 5 K (⟨#[s 0, s 1, s 2, .pointer (some ⟨w.heap.size, 0, none⟩), .pointer (some ⟨(w.heap.size + 1), 0, none⟩), s 5, .pointer (some ⟨(w.heap.size + 1 + 1), 0, none⟩), .pointer (some ⟨(w.heap.size + 1 + 1 + 1), 0, none⟩), .int .i64 (flatS off hei slo pan top bot true k).lo, .int .i64 (lostL k true), .pointer (some ⟨b10, 0, none⟩), s 11, s 12, s 13, s 14, s 15, s 16, s 17, s 18, s 19, s 20, s 21, s 22, s 23, s 24, s 25, s 26, s 27, s 28, s 29, s 30, s 31, s 32, s 33, s 34, s 35, s 36, s 37, s 38, s 39, s 40, s 41, s 42, s 43, s 44, s 45, s 46, s 47, s 48, s 49, s 50, x 0, x 1, x 2, x 3, x 4, x 5, x 6, x 7, x 8, x 9, x 10, x 11, x 12, x 13, x 14, x 15], []⟩ : Act) v
        refine wpOp_step rfl (fun K' hK' => ?_)
        go_simp
        exact hK' _ _ (hK _ _ (Below.refl _ _) (at_of rfl (rfl)))
      · obtain ⟨x, rfl⟩ := upd_of (show x 4 = .int .i64 ((flatS off hei slo pan top bot true k).lo - (inS ll lh wl wh hl hh ol oh il ih k).hi) from hd 4 _ (by simp) rfl)
        obtain ⟨x, rfl⟩ := upd_of (show x 5 = .int .i64 (lostL k true) from hd 5 _ (by simp) rfl)
        show wpOp Try.prog _ _ 6 K (⟨#[s 0, s 1, s 2, .pointer (some ⟨w.heap.size, 0, none⟩), .pointer (some ⟨(w.heap.size + 1), 0, none⟩), s 5, .pointer (some ⟨(w.heap.size + 1 + 1), 0, none⟩), .pointer (some ⟨(w.heap.size + 1 + 1 + 1), 0, none⟩), .int .i64 (flatS off hei slo pan top bot true k).lo, .int .i64 (lostL k true), .pointer (some ⟨b10, 0, none⟩), s 11, s 12, s 13, s 14, s 15, s 16, s 17, s 18, s 19, s 20, s 21, s 22, s 23, s 24, s 25, s 26, s 27, s 28, s 29, s 30, s 31, s 32, s 33, s 34, s 35, s 36, s 37, s 38, s 39, s 40, s 41, s 42, s 43, s 44, s 45, s 46, s 47, s 48, s 49, s 50, x 0, x 1, x 2, x 3, .int .i64 ((flatS off hei slo pan top bot true k).lo - (inS ll lh wl wh hl hh ol oh il ih k).hi), .int .i64 (lostL k true), x 6, x 7, x 8, x 9, x 10, x 11, x 12, x 13, x 14, x 15], []⟩ : Act) v
        refine wpOp_step rfl (fun K' hK' => ?_)
        go_simp
        exact hK' _ _ (hK _ _ (Below.refl _ _) (at_of rfl (rfl)))
      · show wpOp Try.prog _ _ 7 K (⟨#[s 0, s 1, s 2, .pointer (some ⟨w.heap.size, 0, none⟩), .pointer (some ⟨(w.heap.size + 1), 0, none⟩), s 5, .pointer (some ⟨(w.heap.size + 1 + 1), 0, none⟩), .pointer (some ⟨(w.heap.size + 1 + 1 + 1), 0, none⟩), .int .i64 (flatS off hei slo pan top bot true k).lo, .int .i64 (lostL k true), .pointer (some ⟨b10, 0, none⟩), s 11, s 12, s 13, s 14, s 15, s 16, s 17, s 18, s 19, s 20, s 21, s 22, s 23, s 24, s 25, s 26, s 27, s 28, s 29, s 30, s 31, s 32, s 33, s 34, s 35, s 36, s 37, s 38, s 39, s 40, s 41, s 42, s 43, s 44, s 45, s 46, s 47, s 48, s 49, s 50, x 0, x 1, x 2, x 3, x 4, x 5, x 6, x 7, x 8, x 9, x 10, x 11, x 12, x 13, x 14, x 15], []⟩ : Act) v
        refine wpOp_step rfl (fun K' hK' => ?_)
        go_simp
        exact hK' _ _ (hK _ _ (Below.refl _ _) (at_of rfl (rfl)))
      · show wpOp Try.prog _ _ 8 K (⟨#[s 0, s 1, s 2, .pointer (some ⟨w.heap.size, 0, none⟩), .pointer (some ⟨(w.heap.size + 1), 0, none⟩), s 5, .pointer (some ⟨(w.heap.size + 1 + 1), 0, none⟩), .pointer (some ⟨(w.heap.size + 1 + 1 + 1), 0, none⟩), .int .i64 (flatS off hei slo pan top bot true k).lo, .int .i64 (lostL k true), .pointer (some ⟨b10, 0, none⟩), s 11, s 12, s 13, s 14, s 15, s 16, s 17, s 18, s 19, s 20, s 21, s 22, s 23, s 24, s 25, s 26, s 27, s 28, s 29, s 30, s 31, s 32, s 33, s 34, s 35, s 36, s 37, s 38, s 39, s 40, s 41, s 42, s 43, s 44, s 45, s 46, s 47, s 48, s 49, s 50, x 0, x 1, x 2, x 3, x 4, x 5, x 6, x 7, x 8, x 9, x 10, x 11, x 12, x 13, x 14, x 15], []⟩ : Act) v
        refine wpOp_step rfl (fun K' hK' => ?_)
        go_simp
        exact hK' _ _ (hK _ _ (Below.refl _ _) (at_of rfl (rfl)))
      · obtain ⟨x, rfl⟩ := upd_of (show x 8 = .pointer (some ⟨b10, 0, none⟩) from hd 8 _ (by simp) rfl)
        show wpOp Try.prog _ _ 9 K (⟨#[s 0, s 1, s 2, .pointer (some ⟨w.heap.size, 0, none⟩), .pointer (some ⟨(w.heap.size + 1), 0, none⟩), s 5, .pointer (some ⟨(w.heap.size + 1 + 1), 0, none⟩), .pointer (some ⟨(w.heap.size + 1 + 1 + 1), 0, none⟩), .int .i64 (flatS off hei slo pan top bot true k).lo, .int .i64 (lostL k true), .pointer (some ⟨b10, 0, none⟩), s 11, s 12, s 13, s 14, s 15, s 16, s 17, s 18, s 19, s 20, s 21, s 22, s 23, s 24, s 25, s 26, s 27, s 28, s 29, s 30, s 31, s 32, s 33, s 34, s 35, s 36, s 37, s 38, s 39, s 40, s 41, s 42, s 43, s 44, s 45, s 46, s 47, s 48, s 49, s 50, x 0, x 1, x 2, x 3, x 4, x 5, x 6, x 7, .pointer (some ⟨b10, 0, none⟩), x 9, x 10, x 11, x 12, x 13, x 14, x 15], []⟩ : Act) v
        refine wpOp_step rfl (fun K' hK' => ?_)
        have q := (hI.keep gv).2 0 _ rfl
        go_simp
        exact hK' _ _ (hK _ _ (Below.refl _ _) (at_of rfl (rfl)))
      · obtain ⟨x, rfl⟩ := upd_of (show x 7 = .int .i64 (flatS off hei slo pan top bot true k).lo from hd 7 _ (by simp) rfl)
        obtain ⟨x, rfl⟩ := upd_of (show x 9 = .int .i64 (inS ll lh wl wh hl hh ol oh il ih k).lo from hd 9 _ (by simp) rfl)
        show wpOp Try.prog _ _ 10 K (⟨#[s 0, s 1, s 2, .pointer (some ⟨w.heap.size, 0, none⟩), .pointer (some ⟨(w.heap.size + 1), 0, none⟩), s 5, .pointer (some ⟨(w.heap.size + 1 + 1), 0, none⟩), .pointer (some ⟨(w.heap.size + 1 + 1 + 1), 0, none⟩), .int .i64 (flatS off hei slo pan top bot true k).lo, .int .i64 (lostL k true), .pointer (some ⟨b10, 0, none⟩), s 11, s 12, s 13, s 14, s 15, s 16, s 17, s 18, s 19, s 20, s 21, s 22, s 23, s 24, s 25, s 26, s 27, s 28, s 29, s 30, s 31, s 32, s 33, s 34, s 35, s 36, s 37, s 38, s 39, s 40, s 41, s 42, s 43, s 44, s 45, s 46, s 47, s 48, s 49, s 50, x 0, x 1, x 2, x 3, x 4, x 5, x 6, .int .i64 (flatS off hei slo pan top bot true k).lo, x 8, .int .i64 (inS ll lh wl wh hl hh ol oh il ih k).lo, x 10, x 11, x 12, x 13, x 14, x 15], []⟩ : Act) v
        refine wpOp_step rfl (fun K' hK' => ?_)
        go_simp
        exact hK' _ _ (hK _ _ (Below.refl _ _) (at_of rfl (rfl)))
      · show wpOp Try.prog _ _ 11 K (⟨#[s 0, s 1, s 2, .pointer (some ⟨w.heap.size, 0, none⟩), .pointer (some ⟨(w.heap.size + 1), 0, none⟩), s 5, .pointer (some ⟨(w.heap.size + 1 + 1), 0, none⟩), .pointer (some ⟨(w.heap.size + 1 + 1 + 1), 0, none⟩), .int .i64 (flatS off hei slo pan top bot true k).lo, .int .i64 (lostL k true), .pointer (some ⟨b10, 0, none⟩), s 11, s 12, s 13, s 14, s 15, s 16, s 17, s 18, s 19, s 20, s 21, s 22, s 23, s 24, s 25, s 26, s 27, s 28, s 29, s 30, s 31, s 32, s 33, s 34, s 35, s 36, s 37, s 38, s 39, s 40, s 41, s 42, s 43, s 44, s 45, s 46, s 47, s 48, s 49, s 50, x 0, x 1, x 2, x 3, x 4, x 5, x 6, x 7, x 8, x 9, x 10, x 11, x 12, x 13, x 14, x 15], []⟩ : Act) v
        refine wpOp_step rfl (fun K' hK' => ?_)
        go_simp
        exact hK' _ _ (hK _ _ (Below.refl _ _) (at_of rfl (rfl)))
      · obtain ⟨x, rfl⟩ := upd_of (show x 10 = .int .i64 ((flatS off hei slo pan top bot true k).lo - (inS ll lh wl wh hl hh ol oh il ih k).lo) from hd 10 _ (by simp) rfl)
        obtain ⟨x, rfl⟩ := upd_of (show x 11 = .int .i64 (lostL k true) from hd 11 _ (by simp) rfl)
        show wpOp Try.prog _ _ 12 K (⟨#[s 0, s 1, s 2, .pointer (some ⟨w.heap.size, 0, none⟩), .pointer (some ⟨(w.heap.size + 1), 0, none⟩), s 5, .pointer (some ⟨(w.heap.size + 1 + 1), 0, none⟩), .pointer (some ⟨(w.heap.size + 1 + 1 + 1), 0, none⟩), .int .i64 (flatS off hei slo pan top bot true k).lo, .int .i64 (lostL k true), .pointer (some ⟨b10, 0, none⟩), s 11, s 12, s 13, s 14, s 15, s 16, s 17, s 18, s 19, s 20, s 21, s 22, s 23, s 24, s 25, s 26, s 27, s 28, s 29, s 30, s 31, s 32, s 33, s 34, s 35, s 36, s 37, s 38, s 39, s 40, s 41, s 42, s 43, s 44, s 45, s 46, s 47, s 48, s 49, s 50, x 0, x 1, x 2, x 3, x 4, x 5, x 6, x 7, x 8, x 9, .int .i64 ((flatS off hei slo pan top bot true k).lo - (inS ll lh wl wh hl hh ol oh il ih k).lo), .int .i64 (lostL k true), x 12, x 13, x 14, x 15], []⟩ : Act) v
        refine wpOp_step rfl (fun K' hK' => ?_)
        go_simp
        exact hK' _ _ (hK _ _ (Below.refl _ _) (at_of rfl (rfl)))
      · obtain ⟨x, rfl⟩ := upd_of (show x 6 = .int .i64 (((flatS off hei slo pan top bot true k).lo - (inS ll lh wl wh hl hh ol oh il ih k).hi).tdiv (lostL k true)) from hd 6 _ (by simp) rfl)
        obtain ⟨x, rfl⟩ := upd_of (show x 12 = .int .i64 (((flatS off hei slo pan top bot true k).lo - (inS ll lh wl wh hl hh ol oh il ih k).lo).tdiv (lostL k true)) from hd 12 _ (by simp) rfl)
        show wpOp Try.prog _ _ 13 K (⟨#[s 0, s 1, s 2, .pointer (some ⟨w.heap.size, 0, none⟩), .pointer (some ⟨(w.heap.size + 1), 0, none⟩), s 5, .pointer (some ⟨(w.heap.size + 1 + 1), 0, none⟩), .pointer (some ⟨(w.heap.size + 1 + 1 + 1), 0, none⟩), .int .i64 (flatS off hei slo pan top bot true k).lo, .int .i64 (lostL k true), .pointer (some ⟨b10, 0, none⟩), s 11, s 12, s 13, s 14, s 15, s 16, s 17, s 18, s 19, s 20, s 21, s 22, s 23, s 24, s 25, s 26, s 27, s 28, s 29, s 30, s 31, s 32, s 33, s 34, s 35, s 36, s 37, s 38, s 39, s 40, s 41, s 42, s 43, s 44, s 45, s 46, s 47, s 48, s 49, s 50, x 0, x 1, x 2, x 3, x 4, x 5, .int .i64 (((flatS off hei slo pan top bot true k).lo - (inS ll lh wl wh hl hh ol oh il ih k).hi).tdiv (lostL k true)), x 7, x 8, x 9, x 10, x 11, .int .i64 (((flatS off hei slo pan top bot true k).lo - (inS ll lh wl wh hl hh ol oh il ih k).lo).tdiv (lostL k true)), x 13, x 14, x 15], []⟩ : Act) v
        refine wpOp_step rfl (fun K' hK' => ?_)
        go_simp
        exact hK' _ _ (hK _ _ (Below.refl _ _) (at_of rfl (rfl)))
      · obtain ⟨x, rfl⟩ := upd_of (show x 13 = .agg #[.int .i64 (((flatS off hei slo pan top bot true k).lo - (inS ll lh wl wh hl hh ol oh il ih k).hi).tdiv (lostL k true)), .int .i64 (((flatS off hei slo pan top bot true k).lo - (inS ll lh wl wh hl hh ol oh il ih k).lo).tdiv (lostL k true))] from hd 13 _ (by simp) rfl)
        show wpOp Try.prog _ _ 14 K (⟨#[s 0, s 1, s 2, .pointer (some ⟨w.heap.size, 0, none⟩), .pointer (some ⟨(w.heap.size + 1), 0, none⟩), s 5, .pointer (some ⟨(w.heap.size + 1 + 1), 0, none⟩), .pointer (some ⟨(w.heap.size + 1 + 1 + 1), 0, none⟩), .int .i64 (flatS off hei slo pan top bot true k).lo, .int .i64 (lostL k true), .pointer (some ⟨b10, 0, none⟩), s 11, s 12, s 13, s 14, s 15, s 16, s 17, s 18, s 19, s 20, s 21, s 22, s 23, s 24, s 25, s 26, s 27, s 28, s 29, s 30, s 31, s 32, s 33, s 34, s 35, s 36, s 37, s 38, s 39, s 40, s 41, s 42, s 43, s 44, s 45, s 46, s 47, s 48, s 49, s 50, x 0, x 1, x 2, x 3, x 4, x 5, x 6, x 7, x 8, x 9, x 10, x 11, x 12, .agg #[.int .i64 (((flatS off hei slo pan top bot true k).lo - (inS ll lh wl wh hl hh ol oh il ih k).hi).tdiv (lostL k true)), .int .i64 (((flatS off hei slo pan top bot true k).lo - (inS ll lh wl wh hl hh ol oh il ih k).lo).tdiv (lostL k true))], x 14, x 15], []⟩ : Act) v
        refine wpOp_step rfl (fun K' hK' => ?_)
        go_simp
        have hg := Gr.al v (.cells (List.toArray [.int .i64 (((flatS off hei slo pan top bot true k).lo - (inS ll lh wl wh hl hh ol oh il ih k).hi).tdiv (lostL k true)), .int .i64 (((flatS off hei slo pan top bot true k).lo - (inS ll lh wl wh hl hh ol oh il ih k).lo).tdiv (lostL k true))]) 38)
        exact hK' _ _ (hK _ _ hg (at_of rfl (⟨_, rfl, SRow.new1 v 38 (((flatS off hei slo pan top bot true k).lo - (inS ll lh wl wh hl hh ol oh il ih k).hi).tdiv (lostL k true)) (((flatS off hei slo pan top bot true k).lo - (inS ll lh wl wh hl hh ol oh il ih k).lo).tdiv (lostL k true)) v.heap.size rfl⟩)))
      · obtain ⟨x, rfl⟩ := upd_of (show x 0 = .agg #[.int .i64 1, .int .i64 10000] from hd 0 _ (by simp) rfl)
        obtain ⟨a14, e14, r14⟩ := hd 14 _ (by simp) rfl
        obtain ⟨x, rfl⟩ := upd_of (show x 14 = .slice a14 1 1 from e14)
        show wpOp Try.prog _ _ 15 K (⟨#[s 0, s 1, s 2, .pointer (some ⟨w.heap.size, 0, none⟩), .pointer (some ⟨(w.heap.size + 1), 0, none⟩), s 5, .pointer (some ⟨(w.heap.size + 1 + 1), 0, none⟩), .pointer (some ⟨(w.heap.size + 1 + 1 + 1), 0, none⟩), .int .i64 (flatS off hei slo pan top bot true k).lo, .int .i64 (lostL k true), .pointer (some ⟨b10, 0, none⟩), s 11, s 12, s 13, s 14, s 15, s 16, s 17, s 18, s 19, s 20, s 21, s 22, s 23, s 24, s 25, s 26, s 27, s 28, s 29, s 30, s 31, s 32, s 33, s 34, s 35, s 36, s 37, s 38, s 39, s 40, s 41, s 42, s 43, s 44, s 45, s 46, s 47, s 48, s 49, s 50, .agg #[.int .i64 1, .int .i64 10000], x 1, x 2, x 3, x 4, x 5, x 6, x 7, x 8, x 9, x 10, x 11, x 12, x 13, .slice a14 1 1, x 15], []⟩ : Act) v
        refine wpOp_step rfl (fun K' hK' => ?_)
        go_simp
        refine (meet_one ⟨1, 10000⟩ (((flatS off hei slo pan top bot true k).lo - (inS ll lh wl wh hl hh ol oh il ih k).hi).tdiv (lostL k true)) (((flatS off hei slo pan top bot true k).lo - (inS ll lh wl wh hl hh ol oh il ih k).lo).tdiv (lostL k true)) a14 1 v r14).mono ?_
        rintro e v' ⟨rfl, hg⟩
        exact hK' _ _ (hK _ _ hg (at_of rfl (rfl)))
    case fin7 =>
      rintro x v gv hd
      obtain ⟨x, rfl⟩ := upd_of (show x 15 = .agg #[.int .i64 (max 1 (((flatS off hei slo pan top bot true k).lo - (inS ll lh wl wh hl hh ol oh il ih k).hi).tdiv (lostL k true))), .int .i64 (min 10000 (((flatS off hei slo pan top bot true k).lo - (inS ll lh wl wh hl hh ol oh il ih k).lo).tdiv (lostL k true)))] from hd 15 _ (by omega) rfl)
      clear hd
      show wpList Try.prog _ _ (List.drop 16 _) (⟨#[s 0, s 1, s 2, .pointer (some ⟨w.heap.size, 0, none⟩), .pointer (some ⟨(w.heap.size + 1), 0, none⟩), s 5, .pointer (some ⟨(w.heap.size + 1 + 1), 0, none⟩), .pointer (some ⟨(w.heap.size + 1 + 1 + 1), 0, none⟩), .int .i64 (flatS off hei slo pan top bot true k).lo, .int .i64 (lostL k true), .pointer (some ⟨b10, 0, none⟩), s 11, s 12, s 13, s 14, s 15, s 16, s 17, s 18, s 19, s 20, s 21, s 22, s 23, s 24, s 25, s 26, s 27, s 28, s 29, s 30, s 31, s 32, s 33, s 34, s 35, s 36, s 37, s 38, s 39, s 40, s 41, s 42, s 43, s 44, s 45, s 46, s 47, s 48, s 49, s 50, x 0, x 1, x 2, x 3, x 4, x 5, x 6, x 7, x 8, x 9, x 10, x 11, x 12, x 13, x 14, .agg #[.int .i64 (max 1 (((flatS off hei slo pan top bot true k).lo - (inS ll lh wl wh hl hh ol oh il ih k).hi).tdiv (lostL k true))), .int .i64 (min 10000 (((flatS off hei slo pan top bot true k).lo - (inS ll lh wl wh hl hh ol oh il ih k).lo).tdiv (lostL k true)))]], []⟩ : Act) v
      simp only [List.drop_succ_cons, List.drop_zero]
      have ob := oR.keep gv
      have gW := gg.tr gv
      obtain ⟨u0, u1⟩ := ob.1.c2
      have z0 := ob.2 0
      have z1 := ob.2 1
      clear v0 v1 v2 v3
      go_wp2
      have o1 := ((ob.set (i := 0) (v := .int .i64 (max 1 (((flatS off hei slo pan top bot true k).lo - (inS ll lh wl wh hl hh ol oh il ih k).hi).tdiv (lostL k true)))) (by simp)).set (i := 1) (v := .int .i64 (min 10000 (((flatS off hei slo pan top bot true k).lo - (inS ll lh wl wh hl hh ol oh il ih k).lo).tdiv (lostL k true)))) (by simp)).1.c2
      obtain ⟨o10, o11⟩ := o1
      refine bodyPost_ret (v := .agg #[.int .i64 (max 1 (((flatS off hei slo pan top bot true k).lo - (inS ll lh wl wh hl hh ol oh il ih k).hi).tdiv (lostL k true))), .int .i64 (min 10000 (((flatS off hei slo pan top bot true k).lo - (inS ll lh wl wh hl hh ol oh il ih k).lo).tdiv (lostL k true)))]) (by simp [results, Try.results53, go_sem, o10, o11]) rfl ⟨rfl, ?_⟩
      exact (gW.setCell (by simp; omega) _).setCell (by simp; omega) _

set_option maxRecDepth 100000 in
set_option maxHeartbeats 4000000 in
theorem hold_ft (tab hei slo off : Int) (pan top bot : List Int) (pa ta ba : Option Addr) (pc tc bc : Nat) (ll lh wl wh hl hh ol oh il ih : Int) (k : Nat) (hk : k < 10) (G : ShB hei slo pan top bot) (H : GoodWish ll lh wl wh hl hh ol oh il ih) (h2 : 0 ≤ off) (h3 : off ≤ 3000) (k5 : ((k : Int) == 5) = false) (k6 : ((k : Int) == 6) = false) (w : World) (hp : IRow w pa pan) (ht : IRow w ta top) (hb : IRow w ba bot) :
    Calls Try.prog 53 #[.agg #[.int .i64 tab, .slice pa pan.length pc, .int .i64 hei, .slice ta top.length tc, .slice ba bot.length bc, .int .i64 slo, .bool false, .int .i64 off, .slice ta top.length tc, .slice ba bot.length bc], .agg #[.int .i64 ll, .int .i64 lh, .int .i64 wl, .int .i64 wh, .int .i64 hl, .int .i64 hh, .int .i64 ol, .int .i64 oh, .int .i64 il, .int .i64 ih, .bool true], .int .i64 k] w fun e w' => e = .returned (.agg #[.int .i64 (max 1 (((flatS off hei slo pan top bot false k).lo - (inS ll lh wl wh hl hh ol oh il ih k).hi).tdiv (lostL k false))), .int .i64 (min 10000 (((flatS off hei slo pan top bot false k).lo - (inS ll lh wl wh hl hh ol oh il ih k).lo).tdiv (lostL k false)))]) ∧ Gr w w' := by
  have gg := (((Gr.al w (.cells #[.int .i64 tab, .slice pa pan.length pc, .int .i64 hei, .slice ta top.length tc, .slice ba bot.length bc, .int .i64 slo, .bool false, .int .i64 off, .slice ta top.length tc, .slice ba bot.length bc] 124)).tr (Gr.al _ (.cells #[.int .i64 ll, .int .i64 lh, .int .i64 wl, .int .i64 wh, .int .i64 hl, .int .i64 hh, .int .i64 ol, .int .i64 oh, .int .i64 il, .int .i64 ih, .bool true] 130))).tr (Gr.al _ (.cells #[.int .i64 0, .int .i64 0] 38))).tr (Gr.al _ (.cells #[.int .i64 1, .int .i64 10000] 38))
  have hX := (((Box.new w [.int .i64 tab, .slice pa pan.length pc, .int .i64 hei, .slice ta top.length tc, .slice ba bot.length bc, .int .i64 slo, .bool false, .int .i64 off, .slice ta top.length tc, .slice ba bot.length bc] 124 w.heap.size rfl).keep (Gr.al _ (.cells #[.int .i64 ll, .int .i64 lh, .int .i64 wl, .int .i64 wh, .int .i64 hl, .int .i64 hh, .int .i64 ol, .int .i64 oh, .int .i64 il, .int .i64 ih, .bool true] 130))).keep (Gr.al _ (.cells #[.int .i64 0, .int .i64 0] 38))).keep (Gr.al _ (.cells #[.int .i64 1, .int .i64 10000] 38))
  have hW := ((Box.new (w.alloc (.cells #[.int .i64 tab, .slice pa pan.length pc, .int .i64 hei, .slice ta top.length tc, .slice ba bot.length bc, .int .i64 slo, .bool false, .int .i64 off, .slice ta top.length tc, .slice ba bot.length bc] 124)) [.int .i64 ll, .int .i64 lh, .int .i64 wl, .int .i64 wh, .int .i64 hl, .int .i64 hh, .int .i64 ol, .int .i64 oh, .int .i64 il, .int .i64 ih, .bool true] 130 (w.heap.size + 1) (by simp)).keep (Gr.al _ (.cells #[.int .i64 0, .int .i64 0] 38))).keep (Gr.al _ (.cells #[.int .i64 1, .int .i64 10000] 38))
  have oR := (Own.new ((w.alloc (.cells #[.int .i64 tab, .slice pa pan.length pc, .int .i64 hei, .slice ta top.length tc, .slice ba bot.length bc, .int .i64 slo, .bool false, .int .i64 off, .slice ta top.length tc, .slice ba bot.length bc] 124)).alloc (.cells #[.int .i64 ll, .int .i64 lh, .int .i64 wl, .int .i64 wh, .int .i64 hl, .int .i64 hh, .int .i64 ol, .int .i64 oh, .int .i64 il, .int .i64 ih, .bool true] 130)) [.int .i64 0, .int .i64 0] 38 (w.heap.size + 1 + 1) (by simp)).keep (Gr.al _ (.cells #[.int .i64 1, .int .i64 10000] 38))
  have hA := Own.new (((w.alloc (.cells #[.int .i64 tab, .slice pa pan.length pc, .int .i64 hei, .slice ta top.length tc, .slice ba bot.length bc, .int .i64 slo, .bool false, .int .i64 off, .slice ta top.length tc, .slice ba bot.length bc] 124)).alloc (.cells #[.int .i64 ll, .int .i64 lh, .int .i64 wl, .int .i64 wh, .int .i64 hl, .int .i64 hh, .int .i64 ol, .int .i64 oh, .int .i64 il, .int .i64 ih, .bool true] 130)).alloc (.cells #[.int .i64 0, .int .i64 0] 38)) [.int .i64 1, .int .i64 10000] 38 (w.heap.size + 1 + 1 + 1) (by simp)
  have q6 := hX.2 6 _ rfl
  have p10 := hW.2 10 _ rfl
  have HG := Lib.hid G
  have HH := Lib.hid H
  obtain ⟨f0, f1, f2, f3⟩ := flatS_bd (opn := false) G h2 h3 hk
  obtain ⟨i0, i1, i2, i3⟩ := inS_bd H k
  obtain ⟨m0, m1⟩ := tdiv_bd (lostL_12 k false) (x := (flatS off hei slo pan top bot false k).lo - (inS ll lh wl wh hl hh ol oh il ih k).hi) (by omega) (by omega)
  obtain ⟨r0, r1⟩ := tdiv_bd (lostL_12 k false) (x := (flatS off hei slo pan top bot false k).lo - (inS ll lh wl wh hl hh ol oh il ih k).lo) (by omega) (by omega)
  have hz2 : ¬ lostL k false = 0 := by rcases lostL_12 k false with e | e <;> rw [e] <;> decide
  clear G H
  go_enter Try.func53, Try.ntmps53
  go_upto_region 6 with fail
  clear q6 p10
  refine wp_abs (fun W => Gr w W ∧ Box W w.heap.size [.int .i64 tab, .slice pa pan.length pc, .int .i64 hei, .slice ta top.length tc, .slice ba bot.length bc, .int .i64 slo, .bool false, .int .i64 off, .slice ta top.length tc, .slice ba bot.length bc] ∧ Box W (w.heap.size + 1) [.int .i64 ll, .int .i64 lh, .int .i64 wl, .int .i64 wh, .int .i64 hl, .int .i64 hh, .int .i64 ol, .int .i64 oh, .int .i64 il, .int .i64 ih, .bool true] ∧ Own W (w.heap.size + 1 + 1) [.int .i64 0, .int .i64 0] ∧ Own W (w.heap.size + 1 + 1 + 1) [.int .i64 1, .int .i64 10000]) ⟨gg, hX, hW, oR, hA⟩ ?_
  clear gg hX hW oR hA
  rintro W ⟨gg, hX, hW, oR, hA⟩
  have oR0 := oR
  have hA0 := hA
  refine (show (∀ s : Nat → Value, Code.wp Try.prog _ _ ⟨#[s 0, s 1, .int .i64 k, .pointer (some ⟨w.heap.size, 0, none⟩), .pointer (some ⟨(w.heap.size + 1), 0, none⟩), s 5, .pointer (some ⟨(w.heap.size + 1 + 1), 0, none⟩), .pointer (some ⟨(w.heap.size + 1 + 1 + 1), 0, none⟩), undef, undef, undef, s 11, s 12, s 13, s 14, s 15, s 16, s 17, s 18, s 19, s 20, s 21, s 22, s 23, s 24, s 25, s 26, s 27, s 28, s 29, s 30, s 31, s 32, s 33, s 34, s 35, s 36, s 37, s 38, s 39, s 40, undef, undef, undef, undef, undef, undef, undef, undef, undef, undef, undef, undef, undef, undef, undef, undef, undef, undef, undef, undef, undef, undef, undef, undef, undef, undef], []⟩ _) → _ from fun h => h ((fun l : List Value => fun i => l.getD i undef) [_, _, undef, undef, undef, _, undef, undef, undef, undef, undef, _, _, _, _, _, _, _, _, _, _, _, _, _, _, _, _, _, _, _, _, _, _, _, _, _, _, _, _, _, _])) ?_
  intro s
  dsimp only
  refine wp_region_facts 11 [(2, 0), (2, 1), (3, 2), (6, 4), (6, 5), (9, 7), (9, 8)] (fun x => ⟨#[s 0, s 1, .int .i64 k, .pointer (some ⟨w.heap.size, 0, none⟩), .pointer (some ⟨(w.heap.size + 1), 0, none⟩), s 5, .pointer (some ⟨(w.heap.size + 1 + 1), 0, none⟩), .pointer (some ⟨(w.heap.size + 1 + 1 + 1), 0, none⟩), undef, undef, x 10, s 11, s 12, s 13, s 14, s 15, s 16, s 17, s 18, s 19, s 20, s 21, s 22, s 23, s 24, s 25, s 26, s 27, s 28, s 29, s 30, s 31, s 32, s 33, s 34, s 35, s 36, s 37, s 38, s 39, s 40, x 0, x 1, x 2, x 3, x 4, x 5, x 6, x 7, x 8, x 9, undef, undef, undef, undef, undef, undef, undef, undef, undef, undef, undef, undef, undef, undef, undef, undef], []⟩) (fun _ => undef) [fun _ x => x = .agg #[.int .i64 tab, .slice pa pan.length pc, .int .i64 hei, .slice ta top.length tc, .slice ba bot.length bc, .int .i64 slo, .bool false, .int .i64 off, .slice ta top.length tc, .slice ba bot.length bc], fun _ x => x = .int .i64 k, fun _ x => x = .agg #[.int .i64 (flatS off hei slo pan top bot false k).lo, .int .i64 (flatS off hei slo pan top bot false k).hi], fun _ x => x = .int .i64 (flatS off hei slo pan top bot false k).lo, fun _ x => x = .agg #[.int .i64 tab, .slice pa pan.length pc, .int .i64 hei, .slice ta top.length tc, .slice ba bot.length bc, .int .i64 slo, .bool false, .int .i64 off, .slice ta top.length tc, .slice ba bot.length bc], fun _ x => x = .int .i64 k, fun _ x => x = .int .i64 (lostL k false), fun _ x => x = .agg #[.int .i64 ll, .int .i64 lh, .int .i64 wl, .int .i64 wh, .int .i64 hl, .int .i64 hh, .int .i64 ol, .int .i64 oh, .int .i64 il, .int .i64 ih, .bool true], fun _ x => x = .int .i64 k, fun _ x => x = .agg #[.int .i64 (inS ll lh wl wh hl hh ol oh il ih k).lo, .int .i64 (inS ll lh wl wh hl hh ol oh il ih k).hi], fun v x => ∃ b, x = .pointer (some ⟨b, 0, none⟩) ∧ W.heap.size ≤ b ∧ Own v b [.int .i64 0, .int .i64 0]] (by rfl) (by kernel_rfl) (by kernel_rfl) (by kernel_rfl) (stays_cons (Stays.eq _) (stays_cons (Stays.eq _) (stays_cons (Stays.eq _) (stays_cons (Stays.eq _) (stays_cons (Stays.eq _) (stays_cons (Stays.eq _) (stays_cons (Stays.eq _) (stays_cons (Stays.eq _) (stays_cons (Stays.eq _) (stays_cons (Stays.eq _) (stays_cons (fun v v' x g ⟨b, e, h, o⟩ => ⟨b, e, h, o.keep g⟩) stays_nil))))))))))) ?step6 ?fin6
  case step6 =>
    rintro i hi x v gv hd K hK
    have hi8 : i = 0 ∨ i = 1 ∨ i = 2 ∨ i = 3 ∨ i = 4 ∨ i = 5 ∨ i = 6 ∨ i = 7 ∨ i = 8 ∨ i = 9 ∨ i = 10 := by omega
    rcases hi8 with rfl | rfl | rfl | rfl | rfl | rfl | rfl | rfl | rfl | rfl | rfl
    · show wpOp Try.prog _ _ 0 K (⟨#[s 0, s 1, .int .i64 k, .pointer (some ⟨w.heap.size, 0, none⟩), .pointer (some ⟨(w.heap.size + 1), 0, none⟩), s 5, .pointer (some ⟨(w.heap.size + 1 + 1), 0, none⟩), .pointer (some ⟨(w.heap.size + 1 + 1 + 1), 0, none⟩), undef, undef, x 10, s 11, s 12, s 13, s 14, s 15, s 16, s 17, s 18, s 19, s 20, s 21, s 22, s 23, s 24, s 25, s 26, s 27, s 28, s 29, s 30, s 31, s 32, s 33, s 34, s 35, s 36, s 37, s 38, s 39, s 40, x 0, x 1, x 2, x 3, x 4, x 5, x 6, x 7, x 8, x 9, undef, undef, undef, undef, undef, undef, undef, undef, undef, undef, undef, undef, undef, undef, undef, undef], []⟩ : Act) v
      refine wpOp_step rfl (fun K' hK' => ?_)
      rw [if_pos (by rfl)]
      refine wp_load_mid 124 _ rfl w.heap.size 0 (by rfl) [.int .i64 tab, .slice pa pan.length pc, .int .i64 hei, .slice ta top.length tc, .slice ba bot.length bc, .int .i64 slo, .bool false, .int .i64 off, .slice ta top.length tc, .slice ba bot.length bc] _ (fun j u hu => by rw [Nat.zero_add]; exact (hX.keep gv).2 j u hu) Try.underlying124 rfl (by kernel_rfl) ?_
      exact hK' _ _ (hK _ _ (Below.refl _ _) (at_of rfl (rfl)))
    · show wpOp Try.prog _ _ 1 K (⟨#[s 0, s 1, .int .i64 k, .pointer (some ⟨w.heap.size, 0, none⟩), .pointer (some ⟨(w.heap.size + 1), 0, none⟩), s 5, .pointer (some ⟨(w.heap.size + 1 + 1), 0, none⟩), .pointer (some ⟨(w.heap.size + 1 + 1 + 1), 0, none⟩), undef, undef, x 10, s 11, s 12, s 13, s 14, s 15, s 16, s 17, s 18, s 19, s 20, s 21, s 22, s 23, s 24, s 25, s 26, s 27, s 28, s 29, s 30, s 31, s 32, s 33, s 34, s 35, s 36, s 37, s 38, s 39, s 40, x 0, x 1, x 2, x 3, x 4, x 5, x 6, x 7, x 8, x 9, undef, undef, undef, undef, undef, undef, undef, undef, undef, undef, undef, undef, undef, undef, undef, undef], []⟩ : Act) v
      refine wpOp_step rfl (fun K' hK' => ?_)
      go_simp
      exact hK' _ _ (hK _ _ (Below.refl _ _) (at_of rfl (rfl)))
    · obtain ⟨x, rfl⟩ := upd_of (show x 0 = .agg #[.int .i64 tab, .slice pa pan.length pc, .int .i64 hei, .slice ta top.length tc, .slice ba bot.length bc, .int .i64 slo, .bool false, .int .i64 off, .slice ta top.length tc, .slice ba bot.length bc] from hd 0 _ (by simp) rfl)
      obtain ⟨x, rfl⟩ := upd_of (show x 1 = .int .i64 k from hd 1 _ (by simp) rfl)
      show wpOp Try.prog _ _ 2 K (⟨#[s 0, s 1, .int .i64 k, .pointer (some ⟨w.heap.size, 0, none⟩), .pointer (some ⟨(w.heap.size + 1), 0, none⟩), s 5, .pointer (some ⟨(w.heap.size + 1 + 1), 0, none⟩), .pointer (some ⟨(w.heap.size + 1 + 1 + 1), 0, none⟩), undef, undef, x 10, s 11, s 12, s 13, s 14, s 15, s 16, s 17, s 18, s 19, s 20, s 21, s 22, s 23, s 24, s 25, s 26, s 27, s 28, s 29, s 30, s 31, s 32, s 33, s 34, s 35, s 36, s 37, s 38, s 39, s 40, .agg #[.int .i64 tab, .slice pa pan.length pc, .int .i64 hei, .slice ta top.length tc, .slice ba bot.length bc, .int .i64 slo, .bool false, .int .i64 off, .slice ta top.length tc, .slice ba bot.length bc], .int .i64 k, x 2, x 3, x 4, x 5, x 6, x 7, x 8, x 9, undef, undef, undef, undef, undef, undef, undef, undef, undef, undef, undef, undef, undef, undef, undef, undef], []⟩ : Act) v
      refine wpOp_step rfl (fun K' hK' => ?_)
      go_simp
      refine (flatS_all _ _ _ _ _ _ _ _ _ _ _ _ _ _ HG.out h2 h3 k hk v (hp.grow (gg.tr gv)) (ht.grow (gg.tr gv)) (hb.grow (gg.tr gv))).mono ?_
      rintro e v' ⟨rfl, hg⟩
      exact hK' _ _ (hK _ _ hg (at_of rfl (rfl)))
    · obtain ⟨x, rfl⟩ := upd_of (show x 2 = .agg #[.int .i64 (flatS off hei slo pan top bot false k).lo, .int .i64 (flatS off hei slo pan top bot false k).hi] from hd 2 _ (by simp) rfl)
      show wpOp Try.prog _ _ 3 K (⟨#[s 0, s 1, .int .i64 k, .pointer (some ⟨w.heap.size, 0, none⟩), .pointer (some ⟨(w.heap.size + 1), 0, none⟩), s 5, .pointer (some ⟨(w.heap.size + 1 + 1), 0, none⟩), .pointer (some ⟨(w.heap.size + 1 + 1 + 1), 0, none⟩), undef, undef, x 10, s 11, s 12, s 13, s 14, s 15, s 16, s 17, s 18, s 19, s 20, s 21, s 22, s 23, s 24, s 25, s 26, s 27, s 28, s 29, s 30, s 31, s 32, s 33, s 34, s 35, s 36, s 37, s 38, s 39, s 40, x 0, x 1, .agg #[.int .i64 (flatS off hei slo pan top bot false k).lo, .int .i64 (flatS off hei slo pan top bot false k).hi], x 3, x 4, x 5, x 6, x 7, x 8, x 9, undef, undef, undef, undef, undef, undef, undef, undef, undef, undef, undef, undef, undef, undef, undef, undef], []⟩ : Act) v
      refine wpOp_step rfl (fun K' hK' => ?_)
      have q := fieldSp_0 (.int .i64 (flatS off hei slo pan top bot false k).lo) (.int .i64 (flatS off hei slo pan top bot false k).hi) v
      go_simp
      exact hK' _ _ (hK _ _ (Below.refl _ _) (at_of rfl (rfl)))
    · show wpOp Try.prog _ _ 4 K (⟨#[s 0, s 1, .int .i64 k, .pointer (some ⟨w.heap.size, 0, none⟩), .pointer (some ⟨(w.heap.size + 1), 0, none⟩), s 5, .pointer (some ⟨(w.heap.size + 1 + 1), 0, none⟩), .pointer (some ⟨(w.heap.size + 1 + 1 + 1), 0, none⟩), undef, undef, x 10, s 11, s 12, s 13, s 14, s 15, s 16, s 17, s 18, s 19, s 20, s 21, s 22, s 23, s 24, s 25, s 26, s 27, s 28, s 29, s 30, s 31, s 32, s 33, s 34, s 35, s 36, s 37, s 38, s 39, s 40, x 0, x 1, x 2, x 3, x 4, x 5, x 6, x 7, x 8, x 9, undef, undef, undef, undef, undef, undef, undef, undef, undef, undef, undef, undef, undef, undef, undef, undef], []⟩ : Act) v
      refine wpOp_step rfl (fun K' hK' => ?_)
      rw [if_pos (by rfl)]
      refine wp_load_mid 124 _ rfl w.heap.size 0 (by rfl) [.int .i64 tab, .slice pa pan.length pc, .int .i64 hei, .slice ta top.length tc, .slice ba bot.length bc, .int .i64 slo, .bool false, .int .i64 off, .slice ta top.length tc, .slice ba bot.length bc] _ (fun j u hu => by rw [Nat.zero_add]; exact (hX.keep gv).2 j u hu) Try.underlying124 rfl (by kernel_rfl) ?_
      exact hK' _ _ (hK _ _ (Below.refl _ _) (at_of rfl (rfl)))
    · show wpOp Try.prog _ _ 5 K (⟨#[s 0, s 1, .int .i64 k, .pointer (some ⟨w.heap.size, 0, none⟩), .pointer (some ⟨(w.heap.size + 1), 0, none⟩), s 5, .pointer (some ⟨(w.heap.size + 1 + 1), 0, none⟩), .pointer (some ⟨(w.heap.size + 1 + 1 + 1), 0, none⟩), undef, undef, x 10, s 11, s 12, s 13, s 14, s 15, s 16, s 17, s 18, s 19, s 20, s 21, s 22, s 23, s 24, s 25, s 26, s 27, s 28, s 29, s 30, s 31, s 32, s 33, s 34, s 35, s 36, s 37, s 38, s 39, s 40, x 0, x 1, x 2, x 3, x 4, x 5, x 6, x 7, x 8, x 9, undef, undef, undef, undef, undef, undef, undef, undef, undef, undef, undef, undef, undef, undef, undef, undef], []⟩ : Act) v
      refine wpOp_step rfl (fun K' hK' => ?_)
      go_simp
      exact hK' _ _ (hK _ _ (Below.refl _ _) (at_of rfl (rfl)))
    · obtain ⟨x, rfl⟩ := upd_of (show x 4 = .agg #[.int .i64 tab, .slice pa pan.length pc, .int .i64 hei, .slice ta top.length tc, .slice ba bot.length bc, .int .i64 slo, .bool false, .int .i64 off, .slice ta top.length tc, .slice ba bot.length bc] from hd 4 _ (by simp) rfl)
      obtain ⟨x, rfl⟩ := upd_of (show x 5 = .int .i64 k from hd 5 _ (by simp) rfl)
      show wpOp Try.prog _ _ 6 K (⟨#[s 0, s 1, .int .i64 k, .pointer (some ⟨w.heap.size, 0, none⟩), .pointer (some ⟨(w.heap.size + 1), 0, none⟩), s 5, .pointer (some ⟨(w.heap.size + 1 + 1), 0, none⟩), .pointer (some ⟨(w.heap.size + 1 + 1 + 1), 0, none⟩), undef, undef, x 10, s 11, s 12, s 13, s 14, s 15, s 16, s 17, s 18, s 19, s 20, s 21, s 22, s 23, s 24, s 25, s 26, s 27, s 28, s 29, s 30, s 31, s 32, s 33, s 34, s 35, s 36, s 37, s 38, s 39, s 40, x 0, x 1, x 2, x 3, .agg #[.int .i64 tab, .slice pa pan.length pc, .int .i64 hei, .slice ta top.length tc, .slice ba bot.length bc, .int .i64 slo, .bool false, .int .i64 off, .slice ta top.length tc, .slice ba bot.length bc], .int .i64 k, x 6, x 7, x 8, x 9, undef, undef, undef, undef, undef, undef, undef, undef, undef, undef, undef, undef, undef, undef, undef, undef], []⟩ : Act) v
      refine wpOp_step rfl (fun K' hK' => ?_)
      go_simp
      refine (lost_any _ _ _ _ _ _ _ _ _ _ _ _ _ _ k v).mono ?_
      rintro e v' ⟨rfl, hg⟩
      exact hK' _ _ (hK _ _ hg (at_of rfl (rfl)))
    · show wpOp Try.prog _ _ 7 K (⟨#[s 0, s 1, .int .i64 k, .pointer (some ⟨w.heap.size, 0, none⟩), .pointer (some ⟨(w.heap.size + 1), 0, none⟩), s 5, .pointer (some ⟨(w.heap.size + 1 + 1), 0, none⟩), .pointer (some ⟨(w.heap.size + 1 + 1 + 1), 0, none⟩), undef, undef, x 10, s 11, s 12, s 13, s 14, s 15, s 16, s 17, s 18, s 19, s 20, s 21, s 22, s 23, s 24, s 25, s 26, s 27, s 28, s 29, s 30, s 31, s 32, s 33, s 34, s 35, s 36, s 37, s 38, s 39, s 40, x 0, x 1, x 2, x 3, x 4, x 5, x 6, x 7, x 8, x 9, undef, undef, undef, undef, undef, undef, undef, undef, undef, undef, undef, undef, undef, undef, undef, undef], []⟩ : Act) v
      refine wpOp_step rfl (fun K' hK' => ?_)
      rw [if_pos (by rfl)]
      refine wp_load_mid 130 _ rfl (w.heap.size + 1) 0 (by rfl) [.int .i64 ll, .int .i64 lh, .int .i64 wl, .int .i64 wh, .int .i64 hl, .int .i64 hh, .int .i64 ol, .int .i64 oh, .int .i64 il, .int .i64 ih, .bool true] _ (fun j u hu => by rw [Nat.zero_add]; exact (hW.keep gv).2 j u hu) Try.underlying130 rfl (by kernel_rfl) ?_
      exact hK' _ _ (hK _ _ (Below.refl _ _) (at_of rfl (rfl)))
    · show wpOp Try.prog _ _ 8 K (⟨#[s 0, s 1, .int .i64 k, .pointer (some ⟨w.heap.size, 0, none⟩), .pointer (some ⟨(w.heap.size + 1), 0, none⟩), s 5, .pointer (some ⟨(w.heap.size + 1 + 1), 0, none⟩), .pointer (some ⟨(w.heap.size + 1 + 1 + 1), 0, none⟩), undef, undef, x 10, s 11, s 12, s 13, s 14, s 15, s 16, s 17, s 18, s 19, s 20, s 21, s 22, s 23, s 24, s 25, s 26, s 27, s 28, s 29, s 30, s 31, s 32, s 33, s 34, s 35, s 36, s 37, s 38, s 39, s 40, x 0, x 1, x 2, x 3, x 4, x 5, x 6, x 7, x 8, x 9, undef, undef, undef, undef, undef, undef, undef, undef, undef, undef, undef, undef, undef, undef, undef, undef], []⟩ : Act) v
      refine wpOp_step rfl (fun K' hK' => ?_)
      go_simp
      exact hK' _ _ (hK _ _ (Below.refl _ _) (at_of rfl (rfl)))
    · obtain ⟨x, rfl⟩ := upd_of (show x 7 = .agg #[.int .i64 ll, .int .i64 lh, .int .i64 wl, .int .i64 wh, .int .i64 hl, .int .i64 hh, .int .i64 ol, .int .i64 oh, .int .i64 il, .int .i64 ih, .bool true] from hd 7 _ (by simp) rfl)
      obtain ⟨x, rfl⟩ := upd_of (show x 8 = .int .i64 k from hd 8 _ (by simp) rfl)
      show wpOp Try.prog _ _ 9 K (⟨#[s 0, s 1, .int .i64 k, .pointer (some ⟨w.heap.size, 0, none⟩), .pointer (some ⟨(w.heap.size + 1), 0, none⟩), s 5, .pointer (some ⟨(w.heap.size + 1 + 1), 0, none⟩), .pointer (some ⟨(w.heap.size + 1 + 1 + 1), 0, none⟩), undef, undef, x 10, s 11, s 12, s 13, s 14, s 15, s 16, s 17, s 18, s 19, s 20, s 21, s 22, s 23, s 24, s 25, s 26, s 27, s 28, s 29, s 30, s 31, s 32, s 33, s 34, s 35, s 36, s 37, s 38, s 39, s 40, x 0, x 1, x 2, x 3, x 4, x 5, x 6, .agg #[.int .i64 ll, .int .i64 lh, .int .i64 wl, .int .i64 wh, .int .i64 hl, .int .i64 hh, .int .i64 ol, .int .i64 oh, .int .i64 il, .int .i64 ih, .bool true], .int .i64 k, x 9, undef, undef, undef, undef, undef, undef, undef, undef, undef, undef, undef, undef, undef, undef, undef, undef], []⟩ : Act) v
      refine wpOp_step rfl (fun K' hK' => ?_)
      go_simp
      refine (in_any ll lh wl wh hl hh ol oh il ih true HH.out k hk v).mono ?_
      rintro e v' ⟨rfl, hg⟩
      exact hK' _ _ (hK _ _ hg (at_of rfl (rfl)))
    · show wpOp Try.prog _ _ 10 K (⟨#[s 0, s 1, .int .i64 k, .pointer (some ⟨w.heap.size, 0, none⟩), .pointer (some ⟨(w.heap.size + 1), 0, none⟩), s 5, .pointer (some ⟨(w.heap.size + 1 + 1), 0, none⟩), .pointer (some ⟨(w.heap.size + 1 + 1 + 1), 0, none⟩), undef, undef, x 10, s 11, s 12, s 13, s 14, s 15, s 16, s 17, s 18, s 19, s 20, s 21, s 22, s 23, s 24, s 25, s 26, s 27, s 28, s 29, s 30, s 31, s 32, s 33, s 34, s 35, s 36, s 37, s 38, s 39, s 40, x 0, x 1, x 2, x 3, x 4, x 5, x 6, x 7, x 8, x 9, undef, undef, undef, undef, undef, undef, undef, undef, undef, undef, undef, undef, undef, undef, undef, undef], []⟩ : Act) v
      refine wpOp_step rfl (fun K' hK' => ?_)
      go_simp
      have hg := Gr.al v (.cells (List.toArray [.int .i64 0, .int .i64 0]) 38)
      exact hK' _ _ (hK _ _ hg (at_of rfl (⟨v.heap.size, rfl, gv.size, Own.new v [.int .i64 0, .int .i64 0] 38 v.heap.size rfl⟩)))
  case fin6 =>
    rintro x v gv hd
    obtain ⟨x, rfl⟩ := upd_of (show x 3 = .int .i64 (flatS off hei slo pan top bot false k).lo from hd 3 _ (by omega) rfl)
    obtain ⟨x, rfl⟩ := upd_of (show x 6 = .int .i64 (lostL k false) from hd 6 _ (by omega) rfl)
    obtain ⟨x, rfl⟩ := upd_of (show x 9 = .agg #[.int .i64 (inS ll lh wl wh hl hh ol oh il ih k).lo, .int .i64 (inS ll lh wl wh hl hh ol oh il ih k).hi] from hd 9 _ (by omega) rfl)
    obtain ⟨b10, e10, hb10, ow10⟩ := hd 10 _ (by omega) rfl
    obtain ⟨x, rfl⟩ := upd_of (show x 10 = .pointer (some ⟨b10, 0, none⟩) from e10)
    clear hd
    show wpList Try.prog _ _ (List.drop 11 _) (⟨#[s 0, s 1, .int .i64 k, .pointer (some ⟨w.heap.size, 0, none⟩), .pointer (some ⟨(w.heap.size + 1), 0, none⟩), s 5, .pointer (some ⟨(w.heap.size + 1 + 1), 0, none⟩), .pointer (some ⟨(w.heap.size + 1 + 1 + 1), 0, none⟩), undef, undef, .pointer (some ⟨b10, 0, none⟩), s 11, s 12, s 13, s 14, s 15, s 16, s 17, s 18, s 19, s 20, s 21, s 22, s 23, s 24, s 25, s 26, s 27, s 28, s 29, s 30, s 31, s 32, s 33, s 34, s 35, s 36, s 37, s 38, s 39, s 40, x 0, x 1, x 2, .int .i64 (flatS off hei slo pan top bot false k).lo, x 4, x 5, .int .i64 (lostL k false), x 7, x 8, .agg #[.int .i64 (inS ll lh wl wh hl hh ol oh il ih k).lo, .int .i64 (inS ll lh wl wh hl hh ol oh il ih k).hi], undef, undef, undef, undef, undef, undef, undef, undef, undef, undef, undef, undef, undef, undef, undef, undef], []⟩ : Act) v
    simp only [List.drop_succ_cons, List.drop_zero]
    have gW := gg.tr gv
    have hX := hX.keep gv
    have oR := oR.keep gv
    have hA := hA.keep gv
    have hbw := gg.size
    have hbX := oR.1.1
    have hbR := (show b10 ≠ (w.heap.size + 1 + 1) by have := oR0.1.1; omega)
    have hbA := (show b10 ≠ (w.heap.size + 1 + 1 + 1) by have := hA0.1.1; omega)
    obtain ⟨u0, u1⟩ := ow10.1.c2
    have z0 := ow10.2 0
    have z1 := ow10.2 1
    clear gg gv hW
    go_upto_region 7 with fail
    refine wp_abs (fun V => Gr w V ∧ Own V (w.heap.size + 1 + 1) [.int .i64 0, .int .i64 0] ∧ Own V (w.heap.size + 1 + 1 + 1) [.int .i64 1, .int .i64 10000] ∧ Box V b10 [.int .i64 (inS ll lh wl wh hl hh ol oh il ih k).lo, .int .i64 (inS ll lh wl wh hl hh ol oh il ih k).hi]) ⟨(gW.setCell (by simp; omega) _).setCell (by simp; omega) _, (oR.other (by omega)).other (by omega), (hA.other (by omega)).other (by omega), ((ow10.set (i := 0) (by simp)).set (i := 1) (by simp)).1⟩ ?_
    clear gW oR hA ow10 u0 u1 z0 z1 hX
    rintro V ⟨gg, oR, hA, hI⟩
    have v0 : IntKind.i64.wrap ((flatS off hei slo pan top bot false k).lo - (inS ll lh wl wh hl hh ol oh il ih k).hi) = (flatS off hei slo pan top bot false k).lo - (inS ll lh wl wh hl hh ol oh il ih k).hi := IntWalk.i64_in _ (by omega)
    have v1 : IntKind.i64.wrap ((flatS off hei slo pan top bot false k).lo - (inS ll lh wl wh hl hh ol oh il ih k).lo) = (flatS off hei slo pan top bot false k).lo - (inS ll lh wl wh hl hh ol oh il ih k).lo := IntWalk.i64_in _ (by omega)
    have v2 : IntKind.i64.wrap (((flatS off hei slo pan top bot false k).lo - (inS ll lh wl wh hl hh ol oh il ih k).hi).tdiv (lostL k false)) = ((flatS off hei slo pan top bot false k).lo - (inS ll lh wl wh hl hh ol oh il ih k).hi).tdiv (lostL k false) := IntWalk.i64_in _ (by omega)
    have v3 : IntKind.i64.wrap (((flatS off hei slo pan top bot false k).lo - (inS ll lh wl wh hl hh ol oh il ih k).lo).tdiv (lostL k false)) = ((flatS off hei slo pan top bot false k).lo - (inS ll lh wl wh hl hh ol oh il ih k).lo).tdiv (lostL k false) := IntWalk.i64_in _ (by omega)
    refine (show (∀ s : Nat → Value, Code.wp Try.prog _ _ ⟨#[s 0, s 1, s 2, .pointer (some ⟨w.heap.size, 0, none⟩), .pointer (some ⟨(w.heap.size + 1), 0, none⟩), s 5, .pointer (some ⟨(w.heap.size + 1 + 1), 0, none⟩), .pointer (some ⟨(w.heap.size + 1 + 1 + 1), 0, none⟩), .int .i64 (flatS off hei slo pan top bot false k).lo, .int .i64 (lostL k false), .pointer (some ⟨b10, 0, none⟩), s 11, s 12, s 13, s 14, s 15, s 16, s 17, s 18, s 19, s 20, s 21, s 22, s 23, s 24, s 25, s 26, s 27, s 28, s 29, s 30, s 31, s 32, s 33, s 34, s 35, s 36, s 37, s 38, s 39, s 40, s 41, s 42, s 43, s 44, s 45, s 46, s 47, s 48, s 49, s 50, undef, undef, undef, undef, undef, undef, undef, undef, undef, undef, undef, undef, undef, undef, undef, undef], []⟩ _) → _ from fun h => h ((fun l : List Value => fun i => l.getD i undef) [_, _, _, undef, undef, _, undef, undef, undef, undef, undef, _, _, _, _, _, _, _, _, _, _, _, _, _, _, _, _, _, _, _, _, _, _, _, _, _, _, _, _, _, _, _, _, _, _, _, _, _, _, _, _])) ?_
    clear s
    intro s
    dsimp only
    refine wp_region_facts 16 [(3, 2), (4, 1), (4, 3), (6, 4), (6, 5), (9, 8), (10, 7), (10, 9), (12, 10), (12, 11), (13, 6), (13, 12), (14, 13), (15, 0), (15, 14)] (fun x => ⟨#[s 0, s 1, s 2, .pointer (some ⟨w.heap.size, 0, none⟩), .pointer (some ⟨(w.heap.size + 1), 0, none⟩), s 5, .pointer (some ⟨(w.heap.size + 1 + 1), 0, none⟩), .pointer (some ⟨(w.heap.size + 1 + 1 + 1), 0, none⟩), .int .i64 (flatS off hei slo pan top bot false k).lo, .int .i64 (lostL k false), .pointer (some ⟨b10, 0, none⟩), s 11, s 12, s 13, s 14, s 15, s 16, s 17, s 18, s 19, s 20, s 21, s 22, s 23, s 24, s 25, s 26, s 27, s 28, s 29, s 30, s 31, s 32, s 33, s 34, s 35, s 36, s 37, s 38, s 39, s 40, s 41, s 42, s 43, s 44, s 45, s 46, s 47, s 48, s 49, s 50, x 0, x 1, x 2, x 3, x 4, x 5, x 6, x 7, x 8, x 9, x 10, x 11, x 12, x 13, x 14, x 15], []⟩) (fun _ => undef) [fun _ x => x = .agg #[.int .i64 1, .int .i64 10000], fun _ x => x = .int .i64 (flatS off hei slo pan top bot false k).lo, fun _ x => x = .pointer (some ⟨b10, 1, none⟩), fun _ x => x = .int .i64 (inS ll lh wl wh hl hh ol oh il ih k).hi, fun _ x => x = .int .i64 ((flatS off hei slo pan top bot false k).lo - (inS ll lh wl wh hl hh ol oh il ih k).hi), fun _ x => x = .int .i64 (lostL k false), fun _ x => x = .int .i64 (((flatS off hei slo pan top bot false k).lo - (inS ll lh wl wh hl hh ol oh il ih k).hi).tdiv (lostL k false)), fun _ x => x = .int .i64 (flatS off hei slo pan top bot false k).lo, fun _ x => x = .pointer (some ⟨b10, 0, none⟩), fun _ x => x = .int .i64 (inS ll lh wl wh hl hh ol oh il ih k).lo, fun _ x => x = .int .i64 ((flatS off hei slo pan top bot false k).lo - (inS ll lh wl wh hl hh ol oh il ih k).lo), fun _ x => x = .int .i64 (lostL k false), fun _ x => x = .int .i64 (((flatS off hei slo pan top bot false k).lo - (inS ll lh wl wh hl hh ol oh il ih k).lo).tdiv (lostL k false)), fun _ x => x = .agg #[.int .i64 (((flatS off hei slo pan top bot false k).lo - (inS ll lh wl wh hl hh ol oh il ih k).hi).tdiv (lostL k false)), .int .i64 (((flatS off hei slo pan top bot false k).lo - (inS ll lh wl wh hl hh ol oh il ih k).lo).tdiv (lostL k false))], fun v x => ∃ a, x = .slice a 1 1 ∧ SRow v a [⟨((flatS off hei slo pan top bot false k).lo - (inS ll lh wl wh hl hh ol oh il ih k).hi).tdiv (lostL k false), ((flatS off hei slo pan top bot false k).lo - (inS ll lh wl wh hl hh ol oh il ih k).lo).tdiv (lostL k false)⟩], fun _ x => x = .agg #[.int .i64 (max 1 (((flatS off hei slo pan top bot false k).lo - (inS ll lh wl wh hl hh ol oh il ih k).hi).tdiv (lostL k false))), .int .i64 (min 10000 (((flatS off hei slo pan top bot false k).lo - (inS ll lh wl wh hl hh ol oh il ih k).lo).tdiv (lostL k false)))]] (by rfl) (by kernel_rfl) (by kernel_rfl) (by kernel_rfl) (stays_cons (Stays.eq _) (stays_cons (Stays.eq _) (stays_cons (Stays.eq _) (stays_cons (Stays.eq _) (stays_cons (Stays.eq _) (stays_cons (Stays.eq _) (stays_cons (Stays.eq _) (stays_cons (Stays.eq _) (stays_cons (Stays.eq _) (stays_cons (Stays.eq _) (stays_cons (Stays.eq _) (stays_cons (Stays.eq _) (stays_cons (Stays.eq _) (stays_cons (Stays.eq _) (stays_cons (fun v v' x g ⟨a, e, r⟩ => ⟨a, e, r.grow g⟩) (stays_cons (Stays.eq _) stays_nil)))))))))))))))) ?step7 ?fin7
    case step7 =>
      rintro i hi x v gv hd K hK
      have hi8 : i = 0 ∨ i = 1 ∨ i = 2 ∨ i = 3 ∨ i = 4 ∨ i = 5 ∨ i = 6 ∨ i = 7 ∨ i = 8 ∨ i = 9 ∨ i = 10 ∨ i = 11 ∨ i = 12 ∨ i = 13 ∨ i = 14 ∨ i = 15 := by omega
      rcases hi8 with rfl | rfl | rfl | rfl | rfl | rfl | rfl | rfl | rfl | rfl | rfl | rfl | rfl | rfl | rfl | rfl
      · show wpOp Try.prog _ _ 0 K (⟨#[s 0, s 1, s 2, .pointer (some ⟨w.heap.size, 0, none⟩), .pointer (some ⟨(w.heap.size + 1), 0, none⟩), s 5, .pointer (some ⟨(w.heap.size + 1 + 1), 0, none⟩), .pointer (some ⟨(w.heap.size + 1 + 1 + 1), 0, none⟩), .int .i64 (flatS off hei slo pan top bot false k).lo, .int .i64 (lostL k false), .pointer (some ⟨b10, 0, none⟩), s 11, s 12, s 13, s 14, s 15, s 16, s 17, s 18, s 19, s 20, s 21, s 22, s 23, s 24, s 25, s 26, s 27, s 28, s 29, s 30, s 31, s 32, s 33, s 34, s 35, s 36, s 37, s 38, s 39, s 40, s 41, s 42, s 43, s 44, s 45, s 46, s 47, s 48, s 49, s 50, x 0, x 1, x 2, x 3, x 4, x 5, x 6, x 7, x 8, x 9, x 10, x 11, x 12, x 13, x 14, x 15], []⟩ : Act) v
        refine wpOp_step rfl (fun K' hK' => ?_)
        rw [if_pos (by rfl)]
        refine wp_load_mid 38 _ rfl (w.heap.size + 1 + 1 + 1) 0 (by rfl) [.int .i64 1, .int .i64 10000] _ (fun j u hu => by rw [Nat.zero_add]; exact (hA.1.keep gv).2 j u hu) Try.underlying38 rfl (by kernel_rfl) ?_
        exact hK' _ _ (hK _ _ (Below.refl _ _) (at_of rfl (rfl)))
      · show wpOp Try.prog _ _ 1 K (⟨#[s 0, s 1, s 2, .pointer (some ⟨w.heap.size, 0, none⟩), .pointer (some ⟨(w.heap.size + 1), 0, none⟩), s 5, .pointer (some ⟨(w.heap.size + 1 + 1), 0, none⟩), .pointer (some ⟨(w.heap.size + 1 + 1 + 1), 0, none⟩), .int .i64 (flatS off hei slo pan top bot false k).lo, .int .i64 (lostL k false), .pointer (some ⟨b10, 0, none⟩), s 11, s 12, s 13, s 14, s 15, s 16, s 17, s 18, s 19, s 20, s 21, s 22, s 23, s 24, s 25, s 26, s 27, s 28, s 29, s 30, s 31, s 32, s 33, s 34, s 35, s 36, s 37, s 38, s 39, s 40, s 41, s 42, s 43, s 44, s 45, s 46, s 47, s 48, s 49, s 50, x 0, x 1, x 2, x 3, x 4, x 5, x 6, x 7, x 8, x 9, x 10, x 11, x 12, x 13, x 14, x 15], []⟩ : Act) v
        refine wpOp_step rfl (fun K' hK' => ?_)
        go_simp
        exact hK' _ _ (hK _ _ (Below.refl _ _) (at_of rfl (rfl)))
      · show wpOp Try.prog _ _ 2 K (⟨#[s 0, s 1, s 2, .pointer (some ⟨w.heap.size, 0, none⟩), .pointer (some ⟨(w.heap.size + 1), 0, none⟩), s 5, .pointer (some ⟨(w.heap.size + 1 + 1), 0, none⟩), .pointer (some ⟨(w.heap.size + 1 + 1 + 1), 0, none⟩), .int .i64 (flatS off hei slo pan top bot false k).lo, .int .i64 (lostL k false), .pointer (some ⟨b10, 0, none⟩), s 11, s 12, s 13, s 14, s 15, s 16, s 17, s 18, s 19, s 20, s 21, s 22, s 23, s 24, s 25, s 26, s 27, s 28, s 29, s 30, s 31, s 32, s 33, s 34, s 35, s 36, s 37, s 38, s 39, s 40, s 41, s 42, s 43, s 44, s 45, s 46, s 47, s 48, s 49, s 50, x 0, x 1, x 2, x 3, x 4, x 5, x 6, x 7, x 8, x 9, x 10, x 11, x 12, x 13, x 14, x 15], []⟩ : Act) v
        refine wpOp_step rfl (fun K' hK' => ?_)
        go_simp
        exact hK' _ _ (hK _ _ (Below.refl _ _) (at_of rfl (rfl)))
      · obtain ⟨x, rfl⟩ := upd_of (show x 2 = .pointer (some ⟨b10, 1, none⟩) from hd 2 _ (by simp) rfl)
        show wpOp Try.prog _ _ 3 K (⟨#[s 0, s 1, s 2, .pointer (some ⟨w.heap.size, 0, none⟩), .pointer (some ⟨(w.heap.size + 1), 0, none⟩), s 5, .pointer (some ⟨(w.heap.size + 1 + 1), 0, none⟩), .pointer (some ⟨(w.heap.size + 1 + 1 + 1), 0, none⟩), .int .i64 (flatS off hei slo pan top bot false k).lo, .int .i64 (lostL k false), .pointer (some ⟨b10, 0, none⟩), s 11, s 12, s 13, s 14, s 15, s 16, s 17, s 18, s 19, s 20, s 21, s 22, s 23, s 24, s 25, s 26, s 27, s 28, s 29, s 30, s 31, s 32, s 33, s 34, s 35, s 36, s 37, s 38, s 39, s 40, s 41, s 42, s 43, s 44, s 45, s 46, s 47, s 48, s 49, s 50, x 0, x 1, .pointer (some ⟨b10, 1, none⟩), x 3, x 4, x 5, x 6, x 7, x 8, x 9, x 10, x 11, x 12, x 13, x 14, x 15], []⟩ : Act) v
        refine wpOp_step rfl (fun K' hK' => ?_)
        have q := (hI.keep gv).2 1 _ rfl
        go_simp
        exact hK' _ _ (hK _ _ (Below.refl _ _) (at_of rfl (rfl)))
      · obtain ⟨x, rfl⟩ := upd_of (show x 1 = .int .i64 (flatS off hei slo pan top bot false k).lo from hd 1 _ (by simp) rfl)
        obtain ⟨x, rfl⟩ := upd_of (show x 3 = .int .i64 (inS ll lh wl wh hl hh ol oh il ih k).hi from hd 3 _ (by simp) rfl)
        show wpOp Try.prog _ _ 4 K (⟨#[s 0, s 1, s 2, .pointer (some ⟨w.heap.size, 0, none⟩), .pointer (some ⟨(w.heap.size + 1), 0, none⟩), s 5, .pointer (some ⟨(w.heap.size + 1 + 1), 0, none⟩), .pointer (some ⟨(w.heap.size + 1 + 1 + 1), 0, none⟩), .int .i64 (flatS off hei slo pan top bot false k).lo, .int .i64 (lostL k false), .pointer (some ⟨b10, 0, none⟩), s 11, s 12, s 13, s 14, s 15, s 16, s 17, s 18, s 19, s 20, s 21, s 22, s 23, s 24, s 25, s 26, s 27, s 28, s 29, s 30, s 31, s 32, s 33, s 34, s 35, s 36, s 37, s 38, s 39, s 40, s 41, s 42, s 43, s 44, s 45, s 46, s 47, s 48, s 49, s 50, x 0, .int .i64 (flatS off hei slo pan top bot false k).lo, x 2, .int .i64 (inS ll lh wl wh hl hh ol oh il ih k).hi, x 4, x 5, x 6, x 7, x 8, x 9, x 10, x 11, x 12, x 13, x 14, x 15], []⟩ : Act) v
        refine wpOp_step rfl (fun K' hK' => ?_)
        go_simp
        exact hK' _ _ (hK _ _ (Below.refl _ _) (at_of rfl (rfl)))
      · show wpOp Try.prog _ _ 5 K (⟨#[s 0, s 1, s 2, .pointer (some ⟨w.heap.size, 0, none⟩), .pointer (some ⟨(w.heap.size + 1), 0, none⟩), s 5, .pointer (some ⟨(w.heap.size + 1 + 1), 0, none⟩), .pointer (some ⟨(w.heap.size + 1 + 1 + 1), 0, none⟩), .int .i64 (flatS off hei slo pan top bot false k).lo, .int .i64 (lostL k false), .pointer (some ⟨b10, 0, none⟩), s 11, s 12, s 13, s 14, s 15, s 16, s 17, s 18, s 19, s 20, s 21, s 22, s 23, s 24, s 25, s 26, s 27, s 28, s 29, s 30, s 31, s 32, s 33, s 34, s 35, s 36, s 37, s 38, s 39, s 40, s 41, s 42, s 43, s 44, s 45, s 46, s 47, s 48, s 49, s 50, x 0, x 1, x 2, x 3, x 4, x 5, x 6, x 7, x 8, x 9, x 10, x 11, x 12, x 13, x 14, x 15], []⟩ : Act) v
        refine wpOp_step rfl (fun K' hK' => ?_)
        go_simp
        exact hK' _ _ (hK _ _ (Below.refl _ _) (at_of rfl (rfl)))
      · obtain ⟨x, rfl⟩ := upd_of (show x 4 = .int .i64 ((flatS off hei slo pan top bot false k).lo - (inS ll lh wl wh hl hh ol oh il ih k).hi) from hd 4 _ (by simp) rfl)
        obtain ⟨x, rfl⟩ := upd_of (show x 5 = .int .i64 (lostL k false) from hd 5 _ (by simp) rfl)
        show wpOp Try.prog _ _ 6 K (⟨#[s 0, s 1, s 2, .pointer (some ⟨w.heap.size, 0, none⟩), .pointer (some ⟨(w.heap.size + 1), 0, none⟩), s 5, .pointer (some ⟨(w.heap.size + 1 + 1), 0, none⟩), .pointer (some ⟨(w.heap.size + 1 + 1 + 1), 0, none⟩), .int .i64 (flatS off hei slo pan top bot false k).lo, .int .i64 (lostL k false), .pointer (some ⟨b10, 0, none⟩), s 11, s 12, s 13, s 14, s 15, s 16, s 17, s 18, s 19, s 20, s 21, s 22, s 23, s 24, s 25, s 26, s 27, s 28, s 29, s 30, s 31, s 32, s 33, s 34, s 35, s 36, s 37, s 38, s 39, s 40, s 41, s 42, s 43, s 44, s 45, s 46, s 47, s 48, s 49, s 50, x 0, x 1, x 2, x 3, .int .i64 ((flatS off hei slo pan top bot false k).lo - (inS ll lh wl wh hl hh ol oh il ih k).hi), .int .i64 (lostL k false), x 6, x 7, x 8, x 9, x 10, x 11, x 12, x 13, x 14, x 15], []⟩ : Act) v
        refine wpOp_step rfl (fun K' hK' => ?_)
        go_simp
        exact hK' _ _ (hK _ _ (Below.refl _ _) (at_of rfl (rfl)))
      · show wpOp Try.prog _ _ 7 K (⟨#[s 0, s 1, s 2, .pointer (some ⟨w.heap.size, 0, none⟩), .pointer (some ⟨(w.heap.size + 1), 0, none⟩), s 5, .pointer (some ⟨(w.heap.size + 1 + 1), 0, none⟩), .pointer (some ⟨(w.heap.size + 1 + 1 + 1), 0, none⟩), .int .i64 (flatS off hei slo pan top bot false k).lo, .int .i64 (lostL k false), .pointer (some ⟨b10, 0, none⟩), s 11, s 12, s 13, s 14, s 15, s 16, s 17, s 18, s 19, s 20, s 21, s 22, s 23, s 24, s 25, s 26, s 27, s 28, s 29, s 30, s 31, s 32, s 33, s 34, s 35, s 36, s 37, s 38, s 39, s 40, s 41, s 42, s 43, s 44, s 45, s 46, s 47, s 48, s 49, s 50, x 0, x 1, x 2, x 3, x 4, x 5, x 6, x 7, x 8, x 9, x 10, x 11, x 12, x 13, x 14, x 15], []⟩ : Act) v
        refine wpOp_step rfl (fun K' hK' => ?_)
        go_simp
        exact hK' _ _ (hK _ _ (Below.refl _ _) (at_of rfl (rfl)))
      · show wpOp Try.prog _ _ 8 K (⟨#[s 0, s 1, s 2, .pointer (some ⟨w.heap.size, 0, none⟩), .pointer (some ⟨(w.heap.size + 1), 0, none⟩), s 5, .pointer (some ⟨(w.heap.size + 1 + 1), 0, none⟩), .pointer (some ⟨(w.heap.size + 1 + 1 + 1), 0, none⟩), .int .i64 (flatS off hei slo pan top bot false k).lo, .int .i64 (lostL k false), .pointer (some ⟨b10, 0, none⟩), s 11, s 12, s 13, s 14, s 15, s 16, s 17, s 18, s 19, s 20, s 21, s 22, s 23, s 24, s 25, s 26, s 27, s 28, s 29, s 30, s 31, s 32, s 33, s 34, s 35, s 36, s 37, s 38, s 39, s 40, s 41, s 42, s 43, s 44, s 45, s 46, s 47, s 48, s 49, s 50, x 0, x 1, x 2, x 3, x 4, x 5, x 6, x 7, x 8, x 9, x 10, x 11, x 12, x 13, x 14, x 15], []⟩ : Act) v
        refine wpOp_step rfl (fun K' hK' => ?_)
        go_simp
        exact hK' _ _ (hK _ _ (Below.refl _ _) (at_of rfl (rfl)))
      · obtain ⟨x, rfl⟩ := upd_of (show x 8 = .pointer (some ⟨b10, 0, none⟩) from hd 8 _ (by simp) rfl)
        show wpOp Try.prog _ _ 9 K (⟨#[s 0, s 1, s 2, .pointer (some ⟨w.heap.size, 0, none⟩), .pointer (some ⟨(w.heap.size + 1), 0, none⟩), s 5, .pointer (some ⟨(w.heap.size + 1 + 1), 0, none⟩), .pointer (some ⟨(w.heap.size + 1 + 1 + 1), 0, none⟩), .int .i64 (flatS off hei slo pan top bot false k).lo, .int .i64 (lostL k false), .pointer (some ⟨b10, 0, none⟩), s 11, s 12, s 13, s 14, s 15, s 16, s 17, s 18, s 19, s 20, s 21, s 22, s 23, s 24, s 25, s 26, s 27, s 28, s 29, s 30, s 31, s 32, s 33, s 34, s 35, s 36, s 37, s 38, s 39, s 40, s 41, s 42, s 43, s 44, s 45, s 46, s 47, s 48, s 49, s 50, x 0, x 1, x 2, x 3, x 4, x 5, x 6, x 7, .pointer (some ⟨b10, 0, none⟩), x 9, x 10, x 11, x 12, x 13, x 14, x 15], []⟩ : Act) v
        refine wpOp_step rfl (fun K' hK' => ?_)
        have q := (hI.keep gv).2 0 _ rfl
        go_simp
        exact hK' _ _ (hK _ _ (Below.refl _ _) (at_of rfl (rfl)))
      · obtain ⟨x, rfl⟩ := upd_of (show x 7 = .int .i64 (flatS off hei slo pan top bot false k).lo from hd 7 _ (by simp) rfl)
        obtain ⟨x, rfl⟩ := upd_of (show x 9 = .int .i64 (inS ll lh wl wh hl hh ol oh il ih k).lo from hd 9 _ (by simp) rfl)
        show wpOp Try.prog _ _ 10 K (⟨#[s 0, s 1, s 2, .pointer (some ⟨w.heap.size, 0, none⟩), .pointer (some ⟨(w.heap.size + 1), 0, none⟩), s 5, .pointer (some ⟨(w.heap.size + 1 + 1), 0, none⟩), .pointer (some ⟨(w.heap.size + 1 + 1 + 1), 0, none⟩), .int .i64 (flatS off hei slo pan top bot false k).lo, .int .i64 (lostL k false), .pointer (some ⟨b10, 0, none⟩), s 11, s 12, s 13, s 14, s 15, s 16, s 17, s 18, s 19, s 20, s 21, s 22, s 23, s 24, s 25, s 26, s 27, s 28, s 29, s 30, s 31, s 32, s 33, s 34, s 35, s 36, s 37, s 38, s 39, s 40, s 41, s 42, s 43, s 44, s 45, s 46, s 47, s 48, s 49, s 50, x 0, x 1, x 2, x 3, x 4, x 5, x 6, .int .i64 (flatS off hei slo pan top bot false k).lo, x 8, .int .i64 (inS ll lh wl wh hl hh ol oh il ih k).lo, x 10, x 11, x 12, x 13, x 14, x 15], []⟩ : Act) v
        refine wpOp_step rfl (fun K' hK' => ?_)
        go_simp
        exact hK' _ _ (hK _ _ (Below.refl _ _) (at_of rfl (rfl)))
      · show wpOp Try.prog _ _ 11 K (⟨#[s 0, s 1, s 2, .pointer (some ⟨w.heap.size, 0, none⟩), .pointer (some ⟨(w.heap.size + 1), 0, none⟩), s 5, .pointer (some ⟨(w.heap.size + 1 + 1), 0, none⟩), .pointer (some ⟨(w.heap.size + 1 + 1 + 1), 0, none⟩), .int .i64 (flatS off hei slo pan top bot false k).lo, .int .i64 (lostL k false), .pointer (some ⟨b10, 0, none⟩), s 11, s 12, s 13, s 14, s 15, s 16, s 17, s 18, s 19, s 20, s 21, s 22, s 23, s 24, s 25, s 26, s 27, s 28, s 29, s 30, s 31, s 32, s 33, s 34, s 35, s 36, s 37, s 38, s 39, s 40, s 41, s 42, s 43, s 44, s 45, s 46, s 47, s 48, s 49, s 50, x 0, x 1, x 2, x 3, x 4, x 5, x 6, x 7, x 8, x 9, x 10, x 11, x 12, x 13, x 14, x 15], []⟩ : Act) v
        refine wpOp_step rfl (fun K' hK' => ?_)
        go_simp
        exact hK' _ _ (hK _ _ (Below.refl _ _) (at_of rfl (rfl)))
      · obtain ⟨x, rfl⟩ := upd_of (show x 10 = .int .i64 ((flatS off hei slo pan top bot false k).lo - (inS ll lh wl wh hl hh ol oh il ih k).lo) from hd 10 _ (by simp) rfl)
        obtain ⟨x, rfl⟩ := upd_of (show x 11 = .int .i64 (lostL k false) from hd 11 _ (by simp) rfl)
        show wpOp Try.prog _ _ 12 K (⟨#[s 0, s 1, s 2, .pointer (some ⟨w.heap.size, 0, none⟩), .pointer (some ⟨(w.heap.size + 1), 0, none⟩), s 5, .pointer (some ⟨(w.heap.size + 1 + 1), 0, none⟩), .pointer (some ⟨(w.heap.size + 1 + 1 + 1), 0, none⟩), .int .i64 (flatS off hei slo pan top bot false k).lo, .int .i64 (lostL k false), .pointer (some ⟨b10, 0, none⟩), s 11, s 12, s 13, s 14, s 15, s 16, s 17, s 18, s 19, s 20, s 21, s 22, s 23, s 24, s 25, s 26, s 27, s 28, s 29, s 30, s 31, s 32, s 33, s 34, s 35, s 36, s 37, s 38, s 39, s 40, s 41, s 42, s 43, s 44, s 45, s 46, s 47, s 48, s 49, s 50, x 0, x 1, x 2, x 3, x 4, x 5, x 6, x 7, x 8, x 9, .int .i64 ((flatS off hei slo pan top bot false k).lo - (inS ll lh wl wh hl hh ol oh il ih k).lo), .int .i64 (lostL k false), x 12, x 13, x 14, x 15], []⟩ : Act) v
        refine wpOp_step rfl (fun K' hK' => ?_)
        go_simp
        exact hK' _ _ (hK _ _ (Below.refl _ _) (at_of rfl (rfl)))
      · obtain ⟨x, rfl⟩ := upd_of (show x 6 = .int .i64 (((flatS off hei slo pan top bot false k).lo - (inS ll lh wl wh hl hh ol oh il ih k).hi).tdiv (lostL k false)) from hd 6 _ (by simp) rfl)
        obtain ⟨x, rfl⟩ := upd_of (show x 12 = .int .i64 (((flatS off hei slo pan top bot false k).lo - (inS ll lh wl wh hl hh ol oh il ih k).lo).tdiv (lostL k false)) from hd 12 _ (by simp) rfl)
        show wpOp Try.prog _ _ 13 K (⟨#[s 0, s 1, s 2, .pointer (some ⟨w.heap.size, 0, none⟩), .pointer (some ⟨(w.heap.size + 1), 0, none⟩), s 5, .pointer (some ⟨(w.heap.size + 1 + 1), 0, none⟩), .pointer (some ⟨(w.heap.size + 1 + 1 + 1), 0, none⟩), .int .i64 (flatS off hei slo pan top bot false k).lo, .int .i64 (lostL k false), .pointer (some ⟨b10, 0, none⟩), s 11, s 12, s 13, s 14, s 15, s 16, s 17, s 18, s 19, s 20, s 21, s 22, s 23, s 24, s 25, s 26, s 27, s 28, s 29, s 30, s 31, s 32, s 33, s 34, s 35, s 36, s 37, s 38, s 39, s 40, s 41, s 42, s 43, s 44, s 45, s 46, s 47, s 48, s 49, s 50, x 0, x 1, x 2, x 3, x 4, x 5, .int .i64 (((flatS off hei slo pan top bot false k).lo - (inS ll lh wl wh hl hh ol oh il ih k).hi).tdiv (lostL k false)), x 7, x 8, x 9, x 10, x 11, .int .i64 (((flatS off hei slo pan top bot false k).lo - (inS ll lh wl wh hl hh ol oh il ih k).lo).tdiv (lostL k false)), x 13, x 14, x 15], []⟩ : Act) v
        refine wpOp_step rfl (fun K' hK' => ?_)
        go_simp
        exact hK' _ _ (hK _ _ (Below.refl _ _) (at_of rfl (rfl)))
      · obtain ⟨x, rfl⟩ := upd_of (show x 13 = .agg #[.int .i64 (((flatS off hei slo pan top bot false k).lo - (inS ll lh wl wh hl hh ol oh il ih k).hi).tdiv (lostL k false)), .int .i64 (((flatS off hei slo pan top bot false k).lo - (inS ll lh wl wh hl hh ol oh il ih k).lo).tdiv (lostL k false))] from hd 13 _ (by simp) rfl)
        show wpOp Try.prog _ _ 14 K (⟨#[s 0, s 1, s 2, .pointer (some ⟨w.heap.size, 0, none⟩), .pointer (some ⟨(w.heap.size + 1), 0, none⟩), s 5, .pointer (some ⟨(w.heap.size + 1 + 1), 0, none⟩), .pointer (some ⟨(w.heap.size + 1 + 1 + 1), 0, none⟩), .int .i64 (flatS off hei slo pan top bot false k).lo, .int .i64 (lostL k false), .pointer (some ⟨b10, 0, none⟩), s 11, s 12, s 13, s 14, s 15, s 16, s 17, s 18, s 19, s 20, s 21, s 22, s 23, s 24, s 25, s 26, s 27, s 28, s 29, s 30, s 31, s 32, s 33, s 34, s 35, s 36, s 37, s 38, s 39, s 40, s 41, s 42, s 43, s 44, s 45, s 46, s 47, s 48, s 49, s 50, x 0, x 1, x 2, x 3, x 4, x 5, x 6, x 7, x 8, x 9, x 10, x 11, x 12, .agg #[.int .i64 (((flatS off hei slo pan top bot false k).lo - (inS ll lh wl wh hl hh ol oh il ih k).hi).tdiv (lostL k false)), .int .i64 (((flatS off hei slo pan top bot false k).lo - (inS ll lh wl wh hl hh ol oh il ih k).lo).tdiv (lostL k false))], x 14, x 15], []⟩ : Act) v
        refine wpOp_step rfl (fun K' hK' => ?_)
        go_simp
        have hg := Gr.al v (.cells (List.toArray [.int .i64 (((flatS off hei slo pan top bot false k).lo - (inS ll lh wl wh hl hh ol oh il ih k).hi).tdiv (lostL k false)), .int .i64 (((flatS off hei slo pan top bot false k).lo - (inS ll lh wl wh hl hh ol oh il ih k).lo).tdiv (lostL k false))]) 38)
        exact hK' _ _ (hK _ _ hg (at_of rfl (⟨_, rfl, SRow.new1 v 38 (((flatS off hei slo pan top bot false k).lo - (inS ll lh wl wh hl hh ol oh il ih k).hi).tdiv (lostL k false)) (((flatS off hei slo pan top bot false k).lo - (inS ll lh wl wh hl hh ol oh il ih k).lo).tdiv (lostL k false)) v.heap.size rfl⟩)))
      · obtain ⟨x, rfl⟩ := upd_of (show x 0 = .agg #[.int .i64 1, .int .i64 10000] from hd 0 _ (by simp) rfl)
        obtain ⟨a14, e14, r14⟩ := hd 14 _ (by simp) rfl
        obtain ⟨x, rfl⟩ := upd_of (show x 14 = .slice a14 1 1 from e14)
        show wpOp Try.prog _ _ 15 K (⟨#[s 0, s 1, s 2, .pointer (some ⟨w.heap.size, 0, none⟩), .pointer (some ⟨(w.heap.size + 1), 0, none⟩), s 5, .pointer (some ⟨(w.heap.size + 1 + 1), 0, none⟩), .pointer (some ⟨(w.heap.size + 1 + 1 + 1), 0, none⟩), .int .i64 (flatS off hei slo pan top bot false k).lo, .int .i64 (lostL k false), .pointer (some ⟨b10, 0, none⟩), s 11, s 12, s 13, s 14, s 15, s 16, s 17, s 18, s 19, s 20, s 21, s 22, s 23, s 24, s 25, s 26, s 27, s 28, s 29, s 30, s 31, s 32, s 33, s 34, s 35, s 36, s 37, s 38, s 39, s 40, s 41, s 42, s 43, s 44, s 45, s 46, s 47, s 48, s 49, s 50, .agg #[.int .i64 1, .int .i64 10000], x 1, x 2, x 3, x 4, x 5, x 6, x 7, x 8, x 9, x 10, x 11, x 12, x 13, .slice a14 1 1, x 15], []⟩ : Act) v
        refine wpOp_step rfl (fun K' hK' => ?_)
        go_simp
        refine (meet_one ⟨1, 10000⟩ (((flatS off hei slo pan top bot false k).lo - (inS ll lh wl wh hl hh ol oh il ih k).hi).tdiv (lostL k false)) (((flatS off hei slo pan top bot false k).lo - (inS ll lh wl wh hl hh ol oh il ih k).lo).tdiv (lostL k false)) a14 1 v r14).mono ?_
        rintro e v' ⟨rfl, hg⟩
        exact hK' _ _ (hK _ _ hg (at_of rfl (rfl)))
    case fin7 =>
      rintro x v gv hd
      obtain ⟨x, rfl⟩ := upd_of (show x 15 = .agg #[.int .i64 (max 1 (((flatS off hei slo pan top bot false k).lo - (inS ll lh wl wh hl hh ol oh il ih k).hi).tdiv (lostL k false))), .int .i64 (min 10000 (((flatS off hei slo pan top bot false k).lo - (inS ll lh wl wh hl hh ol oh il ih k).lo).tdiv (lostL k false)))] from hd 15 _ (by omega) rfl)
      clear hd
      show wpList Try.prog _ _ (List.drop 16 _) (⟨#[s 0, s 1, s 2, .pointer (some ⟨w.heap.size, 0, none⟩), .pointer (some ⟨(w.heap.size + 1), 0, none⟩), s 5, .pointer (some ⟨(w.heap.size + 1 + 1), 0, none⟩), .pointer (some ⟨(w.heap.size + 1 + 1 + 1), 0, none⟩), .int .i64 (flatS off hei slo pan top bot false k).lo, .int .i64 (lostL k false), .pointer (some ⟨b10, 0, none⟩), s 11, s 12, s 13, s 14, s 15, s 16, s 17, s 18, s 19, s 20, s 21, s 22, s 23, s 24, s 25, s 26, s 27, s 28, s 29, s 30, s 31, s 32, s 33, s 34, s 35, s 36, s 37, s 38, s 39, s 40, s 41, s 42, s 43, s 44, s 45, s 46, s 47, s 48, s 49, s 50, x 0, x 1, x 2, x 3, x 4, x 5, x 6, x 7, x 8, x 9, x 10, x 11, x 12, x 13, x 14, .agg #[.int .i64 (max 1 (((flatS off hei slo pan top bot false k).lo - (inS ll lh wl wh hl hh ol oh il ih k).hi).tdiv (lostL k false))), .int .i64 (min 10000 (((flatS off hei slo pan top bot false k).lo - (inS ll lh wl wh hl hh ol oh il ih k).lo).tdiv (lostL k false)))]], []⟩ : Act) v
      simp only [List.drop_succ_cons, List.drop_zero]
      have ob := oR.keep gv
      have gW := gg.tr gv
      obtain ⟨u0, u1⟩ := ob.1.c2
      have z0 := ob.2 0
      have z1 := ob.2 1
      clear v0 v1 v2 v3
      go_wp2
      have o1 := ((ob.set (i := 0) (v := .int .i64 (max 1 (((flatS off hei slo pan top bot false k).lo - (inS ll lh wl wh hl hh ol oh il ih k).hi).tdiv (lostL k false)))) (by simp)).set (i := 1) (v := .int .i64 (min 10000 (((flatS off hei slo pan top bot false k).lo - (inS ll lh wl wh hl hh ol oh il ih k).lo).tdiv (lostL k false)))) (by simp)).1.c2
      obtain ⟨o10, o11⟩ := o1
      refine bodyPost_ret (v := .agg #[.int .i64 (max 1 (((flatS off hei slo pan top bot false k).lo - (inS ll lh wl wh hl hh ol oh il ih k).hi).tdiv (lostL k false))), .int .i64 (min 10000 (((flatS off hei slo pan top bot false k).lo - (inS ll lh wl wh hl hh ol oh il ih k).lo).tdiv (lostL k false)))]) (by simp [results, Try.results53, go_sem, o10, o11]) rfl ⟨rfl, ?_⟩
      exact (gW.setCell (by simp; omega) _).setCell (by simp; omega) _

theorem holding_any (tab hei slo off : Int) (pan top bot : List Int) (pa ta ba : Option Addr) (pc tc bc : Nat) (opn wo : Bool) (ll lh wl wh hl hh ol oh il ih : Int) (k : Nat) (hk : k < 10) (G : ShB hei slo pan top bot) (H : GoodWish ll lh wl wh hl hh ol oh il ih) (h2 : 0 ≤ off) (h3 : off ≤ 3000) (w : World) (hp : IRow w pa pan) (ht : IRow w ta top) (hb : IRow w ba bot) :
    Calls Try.prog 53 #[.agg #[.int .i64 tab, .slice pa pan.length pc, .int .i64 hei, .slice ta top.length tc, .slice ba bot.length bc, .int .i64 slo, .bool opn, .int .i64 off, .slice ta top.length tc, .slice ba bot.length bc], .agg #[.int .i64 ll, .int .i64 lh, .int .i64 wl, .int .i64 wh, .int .i64 hl, .int .i64 hh, .int .i64 ol, .int .i64 oh, .int .i64 il, .int .i64 ih, .bool wo], .int .i64 k] w fun e w' => e = .returned (.agg #[.int .i64 (holdL off hei slo pan top bot opn ll lh wl wh hl hh ol oh il ih wo k).lo, .int .i64 (holdL off hei slo pan top bot opn ll lh wl wh hl hh ol oh il ih wo k).hi]) ∧ Gr w w' := by
  have k5 : k ≠ 5 → ((k : Int) == 5) = false := fun h => by rw [beq_eq_false_iff_ne]; omega
  have k6 : k ≠ 6 → ((k : Int) == 6) = false := fun h => by rw [beq_eq_false_iff_ne]; omega
  by_cases h56 : k = 5 ∨ k = 6
  · rcases h56 with rfl | rfl <;> cases opn <;> cases wo <;> simp only [holdL, Bool.or_self, Bool.or_true, Bool.or_false, Bool.true_or, Bool.false_or, Bool.false_eq_true, false_and, true_and, if_false, if_true, true_or, or_true, ne_eq, reduceCtorEq, not_false_eq_true, not_true_eq_false, and_false, and_true, Nat.reduceEqDiff]
    · exact hold_ff tab hei slo off pan top bot pa ta ba pc tc bc ll lh wl wh hl hh ol oh il ih 5 (by omega) G H h2 h3 w hp ht hb
    · exact hold_5ft tab hei slo off pan top bot pa ta ba pc tc bc ll lh wl wh hl hh ol oh il ih G H h2 h3 w hp ht hb
    · exact hold_5tf tab hei slo off pan top bot pa ta ba pc tc bc ll lh wl wh hl hh ol oh il ih G H h2 h3 w hp ht hb
    · exact hold_5tt tab hei slo off pan top bot pa ta ba pc tc bc ll lh wl wh hl hh ol oh il ih G H h2 h3 w hp ht hb
    · exact hold_ff tab hei slo off pan top bot pa ta ba pc tc bc ll lh wl wh hl hh ol oh il ih 6 (by omega) G H h2 h3 w hp ht hb
    · exact hold_6ft tab hei slo off pan top bot pa ta ba pc tc bc ll lh wl wh hl hh ol oh il ih G H h2 h3 w hp ht hb
    · exact hold_6tf tab hei slo off pan top bot pa ta ba pc tc bc ll lh wl wh hl hh ol oh il ih G H h2 h3 w hp ht hb
    · exact hold_6tt tab hei slo off pan top bot pa ta ba pc tc bc ll lh wl wh hl hh ol oh il ih G H h2 h3 w hp ht hb
  · have a5 : k ≠ 5 := fun e => h56 (.inl e)
    have a6 : k ≠ 6 := fun e => h56 (.inr e)
    have E : holdL off hei slo pan top bot opn ll lh wl wh hl hh ol oh il ih wo k = ⟨max 1 (((flatS off hei slo pan top bot opn k).lo - (inS ll lh wl wh hl hh ol oh il ih k).hi).tdiv (lostL k opn)), min 10000 (((flatS off hei slo pan top bot opn k).lo - (inS ll lh wl wh hl hh ol oh il ih k).lo).tdiv (lostL k opn))⟩ := by
      unfold holdL
      rw [if_neg (fun e => h56 e.2)]
    rw [E]
    cases opn
    · cases wo
      · exact hold_ff tab hei slo off pan top bot pa ta ba pc tc bc ll lh wl wh hl hh ol oh il ih k hk G H h2 h3 w hp ht hb
      · exact hold_ft tab hei slo off pan top bot pa ta ba pc tc bc ll lh wl wh hl hh ol oh il ih k hk G H h2 h3 (k5 a5) (k6 a6) w hp ht hb
    · exact hold_tx tab hei slo off pan top bot pa ta ba pc tc bc wo ll lh wl wh hl hh ol oh il ih k hk G H h2 h3 (k5 a5) (k6 a6) w hp ht hb

end Go.Proofs.Ytaommdjekddgiaa
