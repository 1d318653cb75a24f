/- Contract of pubStore. -/
import Derived.Test.YtbohjmogpiaejaaP3
import Derived.Test.YtbohjmogpiaejaaR4
import Derived.Deep.QuietTactic
import Derived.BigQuiet
import Derived.Deep.CutRange
import Derived.Deep.DeepCutAuto
namespace Go.Proofs.Ytbohjmogpiaejaa
set_option linter.unusedVariables false
set_option linter.unusedSimpArgs false
open Go.RowKit

def HeldP (b : Nat) (y0 y1 y2 y3 : Int) (c : Nat) (pv : Value) (w' : World) : Prop := w'.cell? ⟨b, 0, none⟩ = some (.int .u8 y0) ∧ w'.cell? ⟨b, 1, none⟩ = some (.int .u8 y1) ∧ w'.cell? ⟨b, 2, none⟩ = some (.int .u8 y2) ∧ w'.cell? ⟨b, 3, none⟩ = some (.int .u8 y3) ∧ w'.cell? ⟨c, 0, none⟩ = some pv
def HeldF (b : Nat) (y2 : Int) (c : Nat) (pv : Value) (w' : World) : Prop := w'.cell? ⟨b, 2, none⟩ = some (.int .u8 y2) ∧ w'.cell? ⟨c, 1, none⟩ = some pv

def fpaper (v0 v1 v2 v3 : Int) (k : Int) : Paper := ⟨1 + k % 2, 80 + v0, 100 + v1, 100 + v1 + v2 % 60, v3 % 90, v3 % 90 + v2 % 20, 2000 * v0, 5 * v1⟩
def fflute (v0 v1 v2 : Int) : Flute := ⟨2000 + 20 * v0, 2000 + 20 * v0 + (2000 + 20 * v0) * v2 / 400, 1000 + 8 * v1, 1000 + 8 * v1 + v2 % 200⟩
def storeP (x0 x1 x2 x3 x4 x5 x6 x7 x8 x9 x10 x11 : Int) : List Paper := [fpaper x0 x1 x2 x3 0, fpaper x4 x5 x6 x7 1, fpaper x8 x9 x10 x11 2]
def storeF (x12 x13 x14 x15 x16 x17 : Int) : List Flute := [fflute x12 x13 x14, fflute x15 x16 x17]
def Byt (n : Int) : Prop := 0 ≤ n ∧ n ≤ 255

theorem owns_other {w : World} {base : Nat} {e : TypeId} {sz : Nat} {v : Value} {n : Nat} {xs : List Value} {c i : Nat} {u : Value} (h : w.ownsRow base e sz v n xs) (hc : c < base) : (w.setCell ⟨c, i, none⟩ u).ownsRow base e sz v n xs := by
  obtain ⟨h1, h2⟩ := h
  refine ⟨h1, ?_⟩
  rcases h2 with h2 | ⟨b, cap, cur, hv, hb, hh, r⟩
  · exact .inl h2
  · exact .inr ⟨b, cap, cur, hv, hb, (Below.heap_setCell _ _ _ _ (show b ≠ c by omega)).trans hh, r⟩

theorem Box.c3 {w : World} {b : Nat} {x0 x1 x2 : Value} (h : Box w b [x0, x1, x2]) : w.cell? ⟨b, 0, none⟩ = some x0 ∧ w.cell? ⟨b, 1, none⟩ = some x1 ∧ w.cell? ⟨b, 2, none⟩ = some x2 := ⟨h.2 0 x0 rfl, h.2 1 x1 rfl, h.2 2 x2 rfl⟩

theorem Box.other {w : World} {b c i : Nat} {vs : List Value} {v : Value} (h : Box w c vs) (hne : c ≠ b) : Box (w.setCell ⟨b, i, none⟩ v) c vs :=
  ⟨by simpa using h.1, fun j u hu => by rw [cell_set_ne v (.inl hne)]; exact h.2 j u hu⟩

set_option maxRecDepth 100000 in
set_option maxHeartbeats 8000000 in
theorem pubStore_any (x0 x1 x2 x3 x4 x5 x6 x7 x8 x9 x10 x11 x12 x13 x14 x15 x16 x17 x18 x19 x20 x21 x22 x23 x24 : Int) (hb0 : ∀ n ∈ [x0, x1, x2, x3, x4, x5, x6, x7, x8, x9, x10, x11, x12, x13, x14, x15, x16, x17], Byt n) (w : World) :
    Calls Try.prog 6 #[.agg #[.int .u8 x0, .int .u8 x1, .int .u8 x2, .int .u8 x3, .int .u8 x4, .int .u8 x5, .int .u8 x6, .int .u8 x7, .int .u8 x8, .int .u8 x9, .int .u8 x10, .int .u8 x11, .int .u8 x12, .int .u8 x13, .int .u8 x14, .int .u8 x15, .int .u8 x16, .int .u8 x17, .int .u8 x18, .int .u8 x19, .int .u8 x20, .int .u8 x21, .int .u8 x22, .int .u8 x23, .int .u8 x24]] w (StorePost (storeP x0 x1 x2 x3 x4 x5 x6 x7 x8 x9 x10 x11) (storeF x12 x13 x14 x15 x16 x17) w) := by
  obtain ⟨ip, hip, hpz0, hpz1, hpz2⟩ := info_parts infoPaper
  obtain ⟨jf, hjf, hfz0, hfz1, hfz2⟩ := info_parts infoFlute
  have gg := ((Gr.al w (.cells #[.int .u8 x0, .int .u8 x1, .int .u8 x2, .int .u8 x3, .int .u8 x4, .int .u8 x5, .int .u8 x6, .int .u8 x7, .int .u8 x8, .int .u8 x9, .int .u8 x10, .int .u8 x11, .int .u8 x12, .int .u8 x13, .int .u8 x14, .int .u8 x15, .int .u8 x16, .int .u8 x17, .int .u8 x18, .int .u8 x19, .int .u8 x20, .int .u8 x21, .int .u8 x22, .int .u8 x23, .int .u8 x24] 28)).tr (Gr.al _ (.cells #[.slice none 0 0, .slice none 0 0] 33))).tr (Gr.al _ (.cells #[.slice none 0 0, .slice none 0 0] 33))
  have hx := (Box.new w [.int .u8 x0, .int .u8 x1, .int .u8 x2, .int .u8 x3, .int .u8 x4, .int .u8 x5, .int .u8 x6, .int .u8 x7, .int .u8 x8, .int .u8 x9, .int .u8 x10, .int .u8 x11, .int .u8 x12, .int .u8 x13, .int .u8 x14, .int .u8 x15, .int .u8 x16, .int .u8 x17, .int .u8 x18, .int .u8 x19, .int .u8 x20, .int .u8 x21, .int .u8 x22, .int .u8 x23, .int .u8 x24] 28 w.heap.size rfl).keep ((Gr.al _ (.cells #[.slice none 0 0, .slice none 0 0] 33)).tr (Gr.al _ (.cells #[.slice none 0 0, .slice none 0 0] 33)))
  have or := (Own.new (w.alloc (.cells #[.int .u8 x0, .int .u8 x1, .int .u8 x2, .int .u8 x3, .int .u8 x4, .int .u8 x5, .int .u8 x6, .int .u8 x7, .int .u8 x8, .int .u8 x9, .int .u8 x10, .int .u8 x11, .int .u8 x12, .int .u8 x13, .int .u8 x14, .int .u8 x15, .int .u8 x16, .int .u8 x17, .int .u8 x18, .int .u8 x19, .int .u8 x20, .int .u8 x21, .int .u8 x22, .int .u8 x23, .int .u8 x24] 28)) [.slice none 0 0, .slice none 0 0] 33 (w.heap.size + 1) (by simp)).keep (Gr.al _ (.cells #[.slice none 0 0, .slice none 0 0] 33))
  have os := Own.new ((w.alloc (.cells #[.int .u8 x0, .int .u8 x1, .int .u8 x2, .int .u8 x3, .int .u8 x4, .int .u8 x5, .int .u8 x6, .int .u8 x7, .int .u8 x8, .int .u8 x9, .int .u8 x10, .int .u8 x11, .int .u8 x12, .int .u8 x13, .int .u8 x14, .int .u8 x15, .int .u8 x16, .int .u8 x17, .int .u8 x18, .int .u8 x19, .int .u8 x20, .int .u8 x21, .int .u8 x22, .int .u8 x23, .int .u8 x24] 28)).alloc (.cells #[.slice none 0 0, .slice none 0 0] 33)) [.slice none 0 0, .slice none 0 0] 33 (w.heap.size + 1 + 1) (by simp)
  have HB := Lib.hid hb0
  clear hb0
  go_enter Try.func6, Try.ntmps6
  go_wp2
  refine wp_abs (fun W => Gr w W ∧ Box W w.heap.size [.int .u8 x0, .int .u8 x1, .int .u8 x2, .int .u8 x3, .int .u8 x4, .int .u8 x5, .int .u8 x6, .int .u8 x7, .int .u8 x8, .int .u8 x9, .int .u8 x10, .int .u8 x11, .int .u8 x12, .int .u8 x13, .int .u8 x14, .int .u8 x15, .int .u8 x16, .int .u8 x17, .int .u8 x18, .int .u8 x19, .int .u8 x20, .int .u8 x21, .int .u8 x22, .int .u8 x23, .int .u8 x24] ∧ Own W (w.heap.size + 1) [.slice none 0 0, .slice none 0 0] ∧ Own W (w.heap.size + 1 + 1) [.slice none 0 0, .slice none 0 0]) ⟨gg, hx, or, os⟩ ?_
  clear gg hx or os
  rintro W ⟨gg, hx, or, os⟩
  go_loopw [4] (fun i wr => Hid (∃ (k : Nat) (pv : Value), k ≤ 3 ∧ i = .int .i64 k ∧ Gr w wr ∧ Box wr w.heap.size [.int .u8 x0, .int .u8 x1, .int .u8 x2, .int .u8 x3, .int .u8 x4, .int .u8 x5, .int .u8 x6, .int .u8 x7, .int .u8 x8, .int .u8 x9, .int .u8 x10, .int .u8 x11, .int .u8 x12, .int .u8 x13, .int .u8 x14, .int .u8 x15, .int .u8 x16, .int .u8 x17, .int .u8 x18, .int .u8 x19, .int .u8 x20, .int .u8 x21, .int .u8 x22, .int .u8 x23, .int .u8 x24] ∧ Own wr (w.heap.size + 1) [.slice none 0 0, .slice none 0 0] ∧ Own wr (w.heap.size + 1 + 1) [pv, .slice none 0 0] ∧
    wr.ownsRow (w.heap.size + 1 + 1 + 1) 68 8 pv k (((storeP x0 x1 x2 x3 x4 x5 x6 x7 x8 x9 x10 x11).take k).flatMap encP))) (fun i wr => 3 - (intOf i).toNat)
  case atStart => exact Lib.hid ⟨0, .slice none 0 0, by omega, rfl, gg, hx, or, os, World.ownsRow_nil _ _ _ _⟩
  case round =>
    clear gg hx or os
    obtain ⟨k, pv, hk, rfl, gg, hx, or, os, hown⟩ := hrel.out
    by_cases hlt : k < 3
    · go_upto_region 5 with fail
      go_cut [5] from 12 to 66 (fun s5 wx => ∃ y0 y1 y2 y3 : Int, s5 = .pointer (some ⟨wr.heap.size, 0, none⟩) ∧ Gr wr wx ∧ Box wx wr.heap.size [.int .u8 y0, .int .u8 y1, .int .u8 y2, .int .u8 y3] ∧ Byt y0 ∧ Byt y1 ∧ Byt y2 ∧ Byt y3 ∧ (storeP x0 x1 x2 x3 x4 x5 x6 x7 x8 x9 x10 x11)[k]? = some (fpaper y0 y1 y2 y3 k))
      case first =>
        have hk3 : k = 0 ∨ k = 1 ∨ k = 2 := by omega
        rcases hk3 with rfl | rfl | rfl
        · have c0 := hx.2 0 _ rfl
          have c1 := hx.2 1 _ rfl
          have c2 := hx.2 2 _ rfl
          have c3 := hx.2 3 _ rfl
          go_wp2_with fail
          go_meet
          exact ⟨x0, x1, x2, x3, rfl, Gr.al _ _, Box.new _ [.int .u8 x0, .int .u8 x1, .int .u8 x2, .int .u8 x3] _ _ rfl, HB.out _ (by simp), HB.out _ (by simp), HB.out _ (by simp), HB.out _ (by simp), rfl⟩
        · have c0 := hx.2 4 _ rfl
          have c1 := hx.2 5 _ rfl
          have c2 := hx.2 6 _ rfl
          have c3 := hx.2 7 _ rfl
          go_wp2_with fail
          go_meet
          exact ⟨x4, x5, x6, x7, rfl, Gr.al _ _, Box.new _ [.int .u8 x4, .int .u8 x5, .int .u8 x6, .int .u8 x7] _ _ rfl, HB.out _ (by simp), HB.out _ (by simp), HB.out _ (by simp), HB.out _ (by simp), rfl⟩
        · have c0 := hx.2 8 _ rfl
          have c1 := hx.2 9 _ rfl
          have c2 := hx.2 10 _ rfl
          have c3 := hx.2 11 _ rfl
          go_wp2_with fail
          go_meet
          exact ⟨x8, x9, x10, x11, rfl, Gr.al _ _, Box.new _ [.int .u8 x8, .int .u8 x9, .int .u8 x10, .int .u8 x11] _ _ rfl, HB.out _ (by simp), HB.out _ (by simp), HB.out _ (by simp), HB.out _ (by simp), rfl⟩
      case rest =>
        obtain ⟨y0, y1, y2, y3, rfl, gn, ov, ⟨p0, q0⟩, ⟨p1, q1⟩, ⟨p2, q2⟩, ⟨p3, q3⟩, hpk⟩ := hcut
        have hsz : w.heap.size + 1 + 1 < wr.heap.size := os.1.1
        have gX := gn.tr (Gr.dr wc)
        obtain ⟨c0, c1, c2, c3⟩ := ov.c4
        go_wp2
        clear c0 c1 c2 c3
        obtain ⟨e0, e1, e2, e3⟩ := (ov.keep (Gr.dr wc)).c4
        have s0 := ((os.keep gX).1.c2).1
        have n1 : ¬ wr.heap.size = w.heap.size + 1 + 1 := by omega
        have n2 : ¬ w.heap.size + 1 + 1 = wr.heap.size := by omega
        have tok1 : True := trivial
        have k1 : k + 1 ≤ maxLen := by unfold maxLen; omega
        have ht0 : ((k : Int)).tmod 2 = (k : Int) % 2 := Int.tmod_eq_emod_of_nonneg (by omega)
        have ht1 : (y2).tmod 60 = y2 % 60 := Int.tmod_eq_emod_of_nonneg (by omega)
        have ht2 : (y3).tmod 90 = y3 % 90 := Int.tmod_eq_emod_of_nonneg (by omega)
        have ht3 : (y2).tmod 20 = y2 % 20 := Int.tmod_eq_emod_of_nonneg (by omega)
        have hw0 : IntKind.i64.wrap (y0) = y0 := IntWalk.i64_in _ (by omega)
        have hw1 : IntKind.i64.wrap (y1) = y1 := IntWalk.i64_in _ (by omega)
        have hw2 : IntKind.i64.wrap (y2) = y2 := IntWalk.i64_in _ (by omega)
        have hw3 : IntKind.i64.wrap (y3) = y3 := IntWalk.i64_in _ (by omega)
        have hw4 : IntKind.i64.wrap (1 + (k : Int) % 2) = 1 + (k : Int) % 2 := IntWalk.i64_in _ (by omega)
        have hw5 : IntKind.i64.wrap (80 + y0) = 80 + y0 := IntWalk.i64_in _ (by omega)
        have hw6 : IntKind.i64.wrap (100 + y1 + y2 % 60) = 100 + y1 + y2 % 60 := IntWalk.i64_in _ (by omega)
        have hw7 : IntKind.i64.wrap (y3 % 90 + y2 % 20) = y3 % 90 + y2 % 20 := IntWalk.i64_in _ (by omega)
        have hw8 : IntKind.i64.wrap (2000 * y0) = 2000 * y0 := IntWalk.i64_in _ (by omega)
        have hw9 : IntKind.i64.wrap (5 * y1) = 5 * y1 := IntWalk.i64_in _ (by omega)
        have hF : HeldP wr.heap.size y0 y1 y2 y3 (w.heap.size + 1 + 1) pv wc.drew := ⟨e0, e1, e2, e3, s0⟩
        haveI : Nonempty (AtW (HeldP wr.heap.size y0 y1 y2 y3 (w.heap.size + 1 + 1) pv)) := ⟨⟨_, hF⟩⟩
        have z0 : ∀ u : AtW (HeldP wr.heap.size y0 y1 y2 y3 (w.heap.size + 1 + 1) pv), u.val.cell? ⟨wr.heap.size, 0, none⟩ = some (.int .u8 y0) := fun u => u.property.1
        have z1 : ∀ u : AtW (HeldP wr.heap.size y0 y1 y2 y3 (w.heap.size + 1 + 1) pv), u.val.cell? ⟨wr.heap.size, 1, none⟩ = some (.int .u8 y1) := fun u => u.property.2.1
        have z2 : ∀ u : AtW (HeldP wr.heap.size y0 y1 y2 y3 (w.heap.size + 1 + 1) pv), u.val.cell? ⟨wr.heap.size, 2, none⟩ = some (.int .u8 y2) := fun u => u.property.2.2.1
        have z3 : ∀ u : AtW (HeldP wr.heap.size y0 y1 y2 y3 (w.heap.size + 1 + 1) pv), u.val.cell? ⟨wr.heap.size, 3, none⟩ = some (.int .u8 y3) := fun u => u.property.2.2.2.1
        have z4 : ∀ u : AtW (HeldP wr.heap.size y0 y1 y2 y3 (w.heap.size + 1 + 1) pv), u.val.cell? ⟨w.heap.size + 1 + 1, 0, none⟩ = some pv := fun u => u.property.2.2.2.2
        refine wp_region_ord (fun w' => ∃ u : AtW (HeldP wr.heap.size y0 y1 y2 y3 (w.heap.size + 1 + 1) pv), w' = u.val) 42 ((List.range' 0 16).map (fun i => (i, true)) ++ ((List.range' 17 13).map (fun i => (i, true)) ++ ((List.range' 31 8).map (fun i => (i, true)) ++ ((16, false) :: (30, false) :: ((List.range' 39 1).map (fun i => (i, true)) ++ [(40, false), (41, false)]))))) (by kernel_rfl) (by kernel_rfl) ⟨⟨_, hF⟩, rfl⟩ ?_
        refine ord_seg 0 16 (by kernel_rfl) (fun d _ _ _ _ h => by cases d <;> exact h) ?_
        simp only [List.drop_zero, List.take_succ_cons, List.take_zero]
        repeat (go_big_quiet_step (fail))
        refine wpQuiet_nil ?_
        refine ord_seg 17 13 (by kernel_rfl) (fun d _ _ _ _ h => by cases d <;> exact h) ?_
        simp only [List.drop_succ_cons, List.drop_zero, List.take_succ_cons, List.take_zero]
        repeat (go_big_quiet_step (fail))
        refine wpQuiet_nil ?_
        refine ord_seg 31 8 (by kernel_rfl) (fun d _ _ _ _ h => by cases d <;> exact h) ?_
        simp only [List.drop_succ_cons, List.drop_zero, List.take_succ_cons, List.take_zero]
        repeat (go_big_quiet_step (fail))
        refine wpQuiet_nil ?_
        refine wpOp_step rfl (fun K' hK => ?_)
        go_simp
        refine (span_any _ _ _).mono ?_
        rintro e w2 ⟨rfl, hg⟩
        replace gX := gX.tr hg
        have hg1 := (Gr.dr wc).tr hg
        obtain ⟨e0, e1, e2, e3⟩ := (ov.keep hg1).c4
        have s0 := ((os.keep gX).1.c2).1
        refine hK _ _ ⟨⟨⟨_, e0, e1, e2, e3, s0⟩, rfl⟩, ?_⟩
        clear hK
        refine wpOp_step rfl (fun K' hK => ?_)
        go_simp
        refine (span_any _ _ _).mono ?_
        rintro e w3 ⟨rfl, hg⟩
        replace gX := gX.tr hg
        have hg2 := hg1.tr hg
        obtain ⟨e0, e1, e2, e3⟩ := (ov.keep hg2).c4
        have s0 := ((os.keep gX).1.c2).1
        refine hK _ _ ⟨⟨⟨_, e0, e1, e2, e3, s0⟩, rfl⟩, ?_⟩
        clear hK
        refine ord_seg 39 1 (by kernel_rfl) (fun d _ _ _ _ h => by cases d <;> exact h) ?_
        simp only [List.drop_succ_cons, List.drop_zero, List.take_succ_cons, List.take_zero]
        repeat (go_big_quiet_step (fail))
        refine wpQuiet_nil ?_
        clear z0 z1 z2 z3 z4
        refine wpOp_step rfl (fun K' hK => ?_)
        go_simp
        have hga := Gr.al w3 (.cells #[.int .i64 (1 + (k : Int) % 2), .int .i64 (80 + y0), .int .i64 (100 + y1), .int .i64 (100 + y1 + y2 % 60), .int .i64 (y3 % 90), .int .i64 (y3 % 90 + y2 % 20), .int .i64 (2000 * y0), .int .i64 (5 * y1)] 68)
        obtain ⟨e0, e1, e2, e3⟩ := (ov.keep (hg2.tr hga)).c4
        have s2 := ((os.keep (gX.tr hga)).1.c2).1
        refine hK _ _ ⟨⟨⟨_, e0, e1, e2, e3, s2⟩, rfl⟩, ?_⟩
        clear hK
        refine wpOp_step rfl (fun K' hK => ?_)
        refine step_append_lies _ (by rfl) _ _ 30 (by rfl) (w.heap.size + 1 + 1 + 1) 68 ip _ 8 64 Try.underlying30 hip hpz0 hpz1 hpz2 rfl (by omega) pv k _ (by rfl) (owns_keep hown (gX.tr (Gr.al _ _))) ⟨w3.heap.size, 0, none⟩ 1 1 ([1 + (k : Int) % 2, 80 + y0, 100 + y1, 100 + y1 + y2 % 60, y3 % 90, y3 % 90 + y2 % 20, 2000 * y0, 5 * y1].map (fun n => Value.int .i64 n)) (by rfl) (by rfl) (cell_news _ _ _) (ints_one _) (by omega) k1 (by omega) ?_ _ rfl ?_
        · (exact Nat.le_trans hsz (gX.tr (Gr.al _ _)).size)
        intro gb cap w4 hown4 hgr4 hat4 hlt4
        have hne4 : ∀ r, pv.ownBlock = some r → w.heap.size + 1 + 1 < r ∧ r < wr.heap.size := (fun r hr => by have := hown.lt r hr; omega)
        have ov4 := (ov.keep (hg2.tr (Gr.al _ _))).grown hgr4 (fun r hr => by have := hne4 r hr; omega)
        have os4 := (os.keep (gX.tr (Gr.al _ _))).grownRow hgr4 (fun r hr => by have := hne4 r hr; omega)
        have gY := (gg.tr (gX.tr (Gr.al _ _))).grown' (owns_keep hown (gX.tr (Gr.al _ _))) (by omega) hgr4
        have hx4 := (hx.keep (gX.tr (Gr.al _ _))).grown hgr4 (fun r hr => by have := hne4 r hr; omega)
        have or4 := (or.keep (gX.tr (Gr.al _ _))).grownRow hgr4 (fun r hr => by have := hne4 r hr; omega)
        (obtain ⟨e0, e1, e2, e3⟩ := ov4.c4)
        have s0 := (os4.1.c2).1
        have z0 := os4.2 0
        refine hK _ _ ⟨⟨⟨_, e0, e1, e2, e3, s0⟩, rfl⟩, ?_⟩
        clear hK
        simp only [wpOrd, Act.put, List.setIfInBounds_toArray]
        all_goals
          clear ht0 ht1 ht2 ht3 hw0 hw1 hw2 hw3 hw4 hw5 hw6 hw7 hw8 hw9
          go_wp2
          go_roundw
          case rel =>
            refine Lib.hid ⟨k + 1, _, by omega, by go_num, gY.setCell (show w.heap.size ≤ w.heap.size + 1 + 1 by omega) _, ?_, or4.other (by omega), os4.set (i := 0) (by simp), ?_⟩
            · exact hx4.other (by omega)
            · rw [List.take_add_one, hpk]
              rw [Option.toList_some, flat_snoc]
              exact owns_other hown4 (by omega)
          case measure => simp [intOf]; omega
    · obtain rfl : k = 3 := by omega
      clear hlt hk
      have hB1 := hown.lt
      have HP := Lib.hid hB1
      clear hB1
      obtain ⟨H1, hH1⟩ : ∃ H1, H1 = wr.heap.size := ⟨_, rfl⟩
      have hsw : w.heap.size + 1 + 1 < H1 := by have := os.1.1; omega
      have hge : H1 ≤ wr.heap.size := by omega
      have HP2 : Hid (∀ r, pv.ownBlock = some r → r < H1) := Lib.hid (fun r hr => by have := HP.out r hr; omega)
      clear hH1
      go_wp2
      go_loopw [7] (fun i wq => Hid (∃ (k : Nat) (pv2 : Value), k ≤ 2 ∧ i = .int .i64 k ∧ Gr w wq ∧ H1 ≤ wq.heap.size ∧ Box wq w.heap.size [.int .u8 x0, .int .u8 x1, .int .u8 x2, .int .u8 x3, .int .u8 x4, .int .u8 x5, .int .u8 x6, .int .u8 x7, .int .u8 x8, .int .u8 x9, .int .u8 x10, .int .u8 x11, .int .u8 x12, .int .u8 x13, .int .u8 x14, .int .u8 x15, .int .u8 x16, .int .u8 x17, .int .u8 x18, .int .u8 x19, .int .u8 x20, .int .u8 x21, .int .u8 x22, .int .u8 x23, .int .u8 x24] ∧ Own wq (w.heap.size + 1) [.slice none 0 0, .slice none 0 0] ∧ Own wq (w.heap.size + 1 + 1) [pv, pv2] ∧
        wq.ownsRow (w.heap.size + 1 + 1 + 1) 68 8 pv 3 (((storeP x0 x1 x2 x3 x4 x5 x6 x7 x8 x9 x10 x11).take 3).flatMap encP) ∧ wq.ownsRow H1 70 4 pv2 k (((storeF x12 x13 x14 x15 x16 x17).take k).flatMap encF))) (fun i wq => 2 - (intOf i).toNat)
      case atStart => exact Lib.hid ⟨0, .slice none 0 0, by omega, rfl, gg, hge, hx, or, os, hown, World.ownsRow_nil _ _ _ _⟩
      case round =>
        clear gg hx or os hown
        obtain ⟨k, pv2, hk, rfl, gg, hHq, hx, or, os, hP, hown⟩ := hrel.out
        by_cases hlt : k < 2
        · go_upto_region 11 with fail
          go_cut [8] from 67 to 107 (fun s8 wx => ∃ y0 y1 y2 : Int, s8 = .pointer (some ⟨wr.heap.size, 0, none⟩) ∧ Gr wr wx ∧ Box wx wr.heap.size [.int .u8 y0, .int .u8 y1, .int .u8 y2] ∧ Byt y0 ∧ Byt y1 ∧ Byt y2 ∧ (storeF x12 x13 x14 x15 x16 x17)[k]? = some (fflute y0 y1 y2))
          case first =>
            have hk3 : k = 0 ∨ k = 1 := by omega
            rcases hk3 with rfl | rfl
            · have c0 := hx.2 12 _ rfl
              have c1 := hx.2 13 _ rfl
              have c2 := hx.2 14 _ rfl
              go_wp2_with fail
              go_meet
              exact ⟨x12, x13, x14, rfl, Gr.al _ _, Box.new _ [.int .u8 x12, .int .u8 x13, .int .u8 x14] _ _ rfl, HB.out _ (by simp), HB.out _ (by simp), HB.out _ (by simp), rfl⟩
            · have c0 := hx.2 15 _ rfl
              have c1 := hx.2 16 _ rfl
              have c2 := hx.2 17 _ rfl
              go_wp2_with fail
              go_meet
              exact ⟨x15, x16, x17, rfl, Gr.al _ _, Box.new _ [.int .u8 x15, .int .u8 x16, .int .u8 x17] _ _ rfl, HB.out _ (by simp), HB.out _ (by simp), HB.out _ (by simp), rfl⟩

          case rest =>
            obtain ⟨y0, y1, y2, rfl, gn, ov, ⟨p0, q0⟩, ⟨p1, q1⟩, ⟨p2, q2⟩, hfk⟩ := hcut
            have hs1 : w.heap.size + 1 + 1 < wr.heap.size := os.1.1
            obtain ⟨c0, c1, c2⟩ := ov.c3
            go_wp2
            go_quiet (fail)
            clear c0 c1 c2
            have gq := Gr.drewN (Below.refl _ wc) nq
            have gn2 := gn.tr gq
            have ov2 := ov.keep gq
            generalize wc.drewN nq = V at *
            clear gn ov gq
            have m0 : 0 ≤ (2000 + 20 * y0) * y2 := Int.mul_nonneg (by omega) p2
            have m1 : (2000 + 20 * y0) * y2 ≤ 7100 * 255 := Int.mul_le_mul (by omega) q2 p2 (by omega)
            have m2 : 0 ≤ (2000 + 20 * y0) * y2 / 400 := by omega
            have m3 : (2000 + 20 * y0) * y2 / 400 ≤ 100000 := by omega
            have ht0 : ((2000 + 20 * y0) * y2).tdiv 400 = (2000 + 20 * y0) * y2 / 400 := Int.tdiv_eq_ediv_of_nonneg m0
            have ht1 : y2.tmod 200 = y2 % 200 := Int.tmod_eq_emod_of_nonneg (by omega)
            have hw0 : IntKind.i64.wrap (y0) = y0 := IntWalk.i64_in _ (by omega)
            have hw1 : IntKind.i64.wrap (y1) = y1 := IntWalk.i64_in _ (by omega)
            have hw2 : IntKind.i64.wrap (y2) = y2 := IntWalk.i64_in _ (by omega)
            have hw3 : IntKind.i64.wrap (20 * y0) = 20 * y0 := IntWalk.i64_in _ (by omega)
            have hw4 : IntKind.i64.wrap (2000 + 20 * y0) = 2000 + 20 * y0 := IntWalk.i64_in _ (by omega)
            have hw5 : IntKind.i64.wrap (8 * y1) = 8 * y1 := IntWalk.i64_in _ (by omega)
            have hw6 : IntKind.i64.wrap (1000 + 8 * y1) = 1000 + 8 * y1 := IntWalk.i64_in _ (by omega)
            have hw7 : IntKind.i64.wrap ((2000 + 20 * y0) * y2) = (2000 + 20 * y0) * y2 := IntWalk.i64_in _ (by omega)
            have hw8 : IntKind.i64.wrap (2000 + 20 * y0 + (2000 + 20 * y0) * y2 / 400) = 2000 + 20 * y0 + (2000 + 20 * y0) * y2 / 400 := IntWalk.i64_in _ (by omega)
            have hw9 : IntKind.i64.wrap (1000 + 8 * y1 + y2 % 200) = 1000 + 8 * y1 + y2 % 200 := IntWalk.i64_in _ (by omega)
            have hw10 : IntKind.i64.wrap ((2000 + 20 * y0) * y2 / 400) = (2000 + 20 * y0) * y2 / 400 := IntWalk.i64_in _ (by omega)
            have gX := gn2.tr (Gr.dr V)
            have hg1 := Gr.dr V
            obtain ⟨e0, e1, e2⟩ := (ov2.keep hg1).c3
            have s1 := ((os.keep gX).1.c2).2
            have n1 : ¬ wr.heap.size = w.heap.size + 1 + 1 := by omega
            have n2 : ¬ w.heap.size + 1 + 1 = wr.heap.size := by omega
            have k1 : k + 1 ≤ maxLen := by unfold maxLen; omega
            go_wp2
            have hF : HeldF wr.heap.size y2 (w.heap.size + 1 + 1) pv2 V.drew := ⟨e2, s1⟩
            haveI : Nonempty (AtW (HeldF wr.heap.size y2 (w.heap.size + 1 + 1) pv2)) := ⟨⟨_, hF⟩⟩
            have z2 : ∀ u : AtW (HeldF wr.heap.size y2 (w.heap.size + 1 + 1) pv2), u.val.cell? ⟨wr.heap.size, 2, none⟩ = some (.int .u8 y2) := fun u => u.property.1
            have z4 : ∀ u : AtW (HeldF wr.heap.size y2 (w.heap.size + 1 + 1) pv2), u.val.cell? ⟨w.heap.size + 1 + 1, 1, none⟩ = some pv2 := fun u => u.property.2
            refine wp_region_ord (fun w' => ∃ u : AtW (HeldF wr.heap.size y2 (w.heap.size + 1 + 1) pv2), w' = u.val) 22 ((List.range' 0 18).map (fun i => (i, true)) ++ ((18, false) :: ((List.range' 19 1).map (fun i => (i, true)) ++ [(20, false), (21, false)]))) (by kernel_rfl) (by kernel_rfl) ⟨⟨_, hF⟩, rfl⟩ ?_
            refine ord_seg 0 18 (by kernel_rfl) (fun d _ _ _ _ h => by cases d <;> exact h) ?_
            simp only [List.drop_zero, List.take_succ_cons, List.take_zero]
            repeat (go_big_quiet_step (fail))
            refine wpQuiet_nil ?_
            refine wpOp_step rfl (fun K' hK => ?_)
            go_simp
            refine (span_any _ _ _).mono ?_
            rintro e w3 ⟨rfl, hg⟩
            replace gX := gX.tr hg
            have hg2 := hg1.tr hg
            obtain ⟨e0, e1, e2⟩ := (ov2.keep hg2).c3
            have s1 := ((os.keep gX).1.c2).2
            refine hK _ _ ⟨⟨⟨_, e2, s1⟩, rfl⟩, ?_⟩
            clear hK
            refine ord_seg 19 1 (by kernel_rfl) (fun d _ _ _ _ h => by cases d <;> exact h) ?_
            simp only [List.drop_succ_cons, List.drop_zero, List.take_succ_cons, List.take_zero]
            repeat (go_big_quiet_step (fail))
            refine wpQuiet_nil ?_
            clear z2 z4
            refine wpOp_step rfl (fun K' hK => ?_)
            go_simp
            have hga := Gr.al w3 (.cells #[.int .i64 (2000 + 20 * y0), .int .i64 (2000 + 20 * y0 + (2000 + 20 * y0) * y2 / 400), .int .i64 (1000 + 8 * y1), .int .i64 (1000 + 8 * y1 + y2 % 200)] 70)
            obtain ⟨e0, e1, e2⟩ := (ov2.keep (hg2.tr hga)).c3
            have s2 := ((os.keep (gX.tr hga)).1.c2).2
            refine hK _ _ ⟨⟨⟨_, e2, s2⟩, rfl⟩, ?_⟩
            clear hK
            refine wpOp_step rfl (fun K' hK => ?_)
            refine step_append_lies _ (by rfl) _ _ 31 (by rfl) H1 70 jf _ 4 32 Try.underlying31 hjf hfz0 hfz1 hfz2 rfl (by omega) pv2 k _ (by rfl) (owns_keep hown (gX.tr (Gr.al _ _))) ⟨w3.heap.size, 0, none⟩ 1 1 ([2000 + 20 * y0, 2000 + 20 * y0 + (2000 + 20 * y0) * y2 / 400, 1000 + 8 * y1, 1000 + 8 * y1 + y2 % 200].map (fun n => Value.int .i64 n)) (by rfl) (by rfl) (cell_news _ _ _) (ints_one _) (by omega) k1 (by omega) ?_ _ rfl ?_
            · (exact Nat.le_trans hHq (gX.tr (Gr.al _ _)).size)
            intro gb cap w4 hown4 hgr4 hat4 hlt4
            have hne4 : ∀ r, pv2.ownBlock = some r → H1 ≤ r ∧ r < wr.heap.size := (fun r hr => by have := hown.lt r hr; omega)
            have ov4 := (ov2.keep (hg2.tr (Gr.al _ _))).grown hgr4 (fun r hr => by have := hne4 r hr; omega)
            have os4 := (os.keep (gX.tr (Gr.al _ _))).grownRow hgr4 (fun r hr => by have := hne4 r hr; omega)
            have gY := (gg.tr (gX.tr (Gr.al _ _))).grown' (owns_keep hown (gX.tr (Gr.al _ _))) (by omega) hgr4
            have hx4 := (hx.keep (gX.tr (Gr.al _ _))).grown hgr4 (fun r hr => by have := hne4 r hr; omega)
            have or4 := (or.keep (gX.tr (Gr.al _ _))).grownRow hgr4 (fun r hr => by have := hne4 r hr; omega)
            have hP4 := (owns_keep hP (gX.tr (Gr.al _ _))).kept hgr4 (by (cases hpo : pv.ownBlock with | none => exact .inl rfl | some r => exact .inr (fun e => by have h1 := HP2.out r hpo; have h2 := hne4 r e.symm; omega)))
            have hH4 := Nat.le_trans hHq (Nat.le_trans (gX.tr (Gr.al _ _)).size hgr4.size)
            (obtain ⟨e0, e1, e2⟩ := ov4.c3)
            have s1 := (os4.1.c2).2
            have z1 := os4.2 1
            refine hK _ _ ⟨⟨⟨_, e2, s1⟩, rfl⟩, ?_⟩
            clear hK
            simp only [wpOrd, Act.put, List.setIfInBounds_toArray]
            all_goals
              clear ht0 ht1 hw0 hw1 hw2 hw3 hw4 hw5 hw6 hw7 hw8 hw9 hw10
              go_wp2
              go_roundw
              case rel =>
                (repeat apply Exists.intro)
                refine ⟨Lib.hid ⟨k + 1, _, by omega, by go_num, gY.setCell (show w.heap.size ≤ w.heap.size + 1 + 1 by omega) _, by simpa using hH4, hx4.other (by omega), or4.other (by omega), os4.set (i := 1) (by simp), owns_other hP4 (by omega), ?_⟩, rfl⟩
                rw [List.take_add_one, hfk]
                rw [Option.toList_some, flat_snoc]
                exact owns_other hown4 (by omega)
              case measure => simp [intOf]; omega
        · obtain rfl : k = 2 := by omega
          obtain ⟨a1, c1, hv1, r1, n1'⟩ := owns_row_new (enc := encP) (l := storeP x0 x1 x2 x3 x4 x5 x6 x7 x8 x9 x10 x11) (fun _ => rfl) (by simp [storeP]) (by simpa [storeP] using hP)
          obtain ⟨a2, c2, hv2, r2, n2'⟩ := owns_row_new (enc := encF) (l := storeF x12 x13 x14 x15 x16 x17) (fun _ => rfl) (by simp [storeF]) (by simpa [storeF] using hown)
          subst hv1
          subst hv2
          have R1 := Lib.hid r1
          have R2 := Lib.hid r2
          have N1 := Lib.hid n1'
          have N2 := Lib.hid (n2'.le (show w.heap.size + 1 + 1 + 1 ≤ H1 by omega))
          obtain ⟨s0, s1⟩ := os.1.c2
          obtain ⟨u0, u1⟩ := or.1.c2
          have z0 := or.2 0
          have z1 := or.2 1
          clear r1 r2 n1' n2' hP hown
          go_wp2
          refine bodyPost_ret (v := .agg #[.slice a1 3 c1, .slice a2 2 c2]) (by simp [results, Try.results6, go_sem, u0, u1, storeP, storeF]) rfl ⟨a1, c1, a2, c2, rfl, (gg.setCell (by simp) _).setCell (by simp) _, ?_, ?_, N1.out.le (by omega), N2.out.le (by omega)⟩
          · exact (R1.out.other N1.out (by omega)).other N1.out (by omega)
          · exact (R2.out.other N2.out (by omega)).other N2.out (by omega)

end Go.Proofs.Ytbohjmogpiaejaa
