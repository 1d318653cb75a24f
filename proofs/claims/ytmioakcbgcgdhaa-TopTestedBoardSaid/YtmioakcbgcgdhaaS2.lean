/- Contracts of less, and of a sheet's panel, height, slot, flap. -/
import Derived.Test.YtmioakcbgcgdhaaS1
import Derived.Test.YtmioakcbgcgdhaaQa
import Derived.StillTailTactics
import Derived.Deep.RegionHeld3
namespace Go.Proofs.Ytmioakcbgcgdhaa
set_option linter.unusedVariables false
set_option linter.unusedSimpArgs false
open Go.RowKit

def less1 (s x : Sp) : Sp := ⟨s.lo - x.hi, s.hi - x.lo⟩

def lessL (s : Sp) (l : List Sp) : Sp := l.foldl less1 s

def SpB (n : Int) (x : Sp) : Prop := -n ≤ x.lo ∧ x.lo ≤ n ∧ -n ≤ x.hi ∧ x.hi ≤ n

theorem less_take {s : Sp} {l : List Sp} {k : Nat} {x : Sp} (hx : l[k]? = some x) : lessL s (l.take (k + 1)) = less1 (lessL s (l.take k)) x := by
  unfold lessL
  rw [List.take_add_one, hx]
  simp

theorem less_bd {s : Sp} {l : List Sp} (hs : SpB 1000000000 s) (hl : ∀ x ∈ l, SpB 1000000000 x) : ∀ k : Nat, k ≤ l.length → SpB (1000000000 * (k + 1)) (lessL s (l.take k))
  | 0, _ => by simpa [lessL] using hs
  | k + 1, hk => by
    obtain ⟨x, hx⟩ := get_of_lt (show k < l.length by omega)
    obtain ⟨a1, a2, a3, a4⟩ := hl x (List.mem_of_getElem? hx)
    obtain ⟨b1, b2, b3, b4⟩ := less_bd hs hl k (by omega)
    rw [less_take hx]
    unfold SpB less1
    simp only
    refine ⟨by omega, by omega, by omega, by omega⟩

set_option maxHeartbeats 1000000 in
theorem less_any (s : Sp) (l : List Sp) (hn : l.length ≤ 10) (hs : SpB 1000000000 s) (hl : ∀ x ∈ l, SpB 1000000000 x) (a : Option Addr) (cap : Nat) (w : World) (hr : SRow w a l) :
    Calls Try.prog 58 #[.agg #[.int .i64 s.lo, .int .i64 s.hi], .slice a l.length cap] w fun e w' => e = .returned (.agg #[.int .i64 (lessL s l).lo, .int .i64 (lessL s l).hi]) ∧ Gr w w' := by
  have gg := (Gr.al w (.cells #[.int .i64 s.lo, .int .i64 s.hi] 38)).tr (Gr.al _ (.cells #[.int .i64 0, .int .i64 0] 38))
  have o1 := (Own.new w [.int .i64 s.lo, .int .i64 s.hi] 38 w.heap.size rfl).keep (Gr.al _ (.cells #[.int .i64 0, .int .i64 0] 38))
  have o2 := Own.new (w.alloc (.cells #[.int .i64 s.lo, .int .i64 s.hi] 38)) [.int .i64 0, .int .i64 0] 38 (w.heap.size + 1) (by simp)
  have HB := Lib.hid (less_bd hs hl)
  clear hs hl
  go_enter Try.func58, Try.ntmps58
  go_wp2
  refine wp_abs (fun W => Gr w W ∧ Own W w.heap.size [.int .i64 s.lo, .int .i64 s.hi] ∧ Own W (w.heap.size + 1) [.int .i64 0, .int .i64 0]) ⟨gg, o1, o2⟩ ?_
  clear gg o1 o2
  rintro W ⟨gg, o1, o2⟩
  go_loopw [9] (fun i wr => ∃ k : Nat, k ≤ l.length ∧ i = .int .i64 k ∧ Gr w wr ∧ Own wr w.heap.size [.int .i64 (lessL s (l.take k)).lo, .int .i64 (lessL s (l.take k)).hi] ∧ Own wr (w.heap.size + 1) [.int .i64 0, .int .i64 0]) (fun i wr => l.length - (intOf i).toNat)
  case atStart => exact ⟨0, Nat.zero_le _, rfl, gg, o1, o2⟩
  case round =>
    clear gg o1 o2
    obtain ⟨k, hk, rfl, gg, o1, o2⟩ := hrel
    by_cases hlt : k < l.length
    · obtain ⟨x, hx⟩ := get_of_lt hlt
      obtain ⟨b0, off, rfl, hb, hc0, hc1⟩ := SRow.get (hr.grow gg) hx
      obtain ⟨b1, b2, b3, b4⟩ := HB.out k hk
      obtain ⟨c1, c2, c3, c4⟩ := HB.out (k + 1) (by omega)
      have et := less_take (s := s) hx
      rw [et] at c1 c2 c3 c4
      have Et := Lib.hid et
      clear et hx
      generalize lessL s (l.take k) = c at *
      obtain ⟨cl, ch⟩ := c
      obtain ⟨xl, xh⟩ := x
      simp only [less1] at b1 b2 b3 b4 c1 c2 c3 c4 hc0 hc1
      have gn := Gr.al wr (.cells #[.int .i64 xl, .int .i64 xh] 38)
      have p1 := o1.keep gn
      have p2 := o2.keep gn
      have p3 := Own.new wr [.int .i64 xl, .int .i64 xh] 38 wr.heap.size rfl
      have hne : wr.heap.size ≠ w.heap.size := by have := o2.1.1; omega
      obtain ⟨q0, q1⟩ := p1.1.c2
      have z0 := p1.2 0
      have z1 := p1.2 1
      obtain ⟨r0, r1⟩ := p3.1.c2
      have HN := Lib.hid hne
      have g3 := gg.tr gn
      go_wp2
      go_roundw
      case rel =>
        refine ⟨k + 1, by omega, by go_num, (g3.setCell (by simp) _).setCell (by simp) _, ?_, (p2.other (by omega)).other (by omega)⟩
        rw [Et.out]
        exact (p1.set (i := 0) (by simp)).set (i := 1) (by simp)
      case measure => simp [intOf]; omega
    · obtain rfl : k = l.length := by omega
      rw [List.take_length] at o1
      obtain ⟨q0, q1⟩ := o1.1.c2
      obtain ⟨r0, r1⟩ := o2.1.c2
      have z0 := o2.2 0
      have z1 := o2.2 1
      go_wp2
      refine bodyPost_ret (v := .agg #[.int .i64 (lessL s l).lo, .int .i64 (lessL s l).hi]) (by simp [results, Try.results58, go_sem, r0, r1]) rfl ⟨rfl, ?_⟩
      exact (gg.setCell (by simp) _).setCell (by simp) _

set_option maxRecDepth 100000 in
set_option maxHeartbeats 1000000 in
theorem panel_any (tab hei slo off : Int) (pan top bot : List Int) (pa ta ba : Option Addr) (pc tc bc : Nat) (opn : Bool) (i : Nat) (v : Int) (hi : pan[i]? = some v) (h0 : 0 ≤ v) (h1 : v ≤ 3000) (h2 : 0 ≤ off) (h3 : off ≤ 3000) (w : World) (hr : IRow w pa pan) :
    Calls Try.prog 103 #[.agg #[.int .i64 tab, .slice pa pan.length pc, .int .i64 hei, .slice ta top.length tc, .slice ba bot.length bc, .int .i64 slo, .bool opn, .int .i64 off, .slice ta top.length tc, .slice ba bot.length bc], .int .i64 i] w fun e w' => e = .returned (.agg #[.int .i64 (nearL off v 1 3000).lo, .int .i64 (nearL off v 1 3000).hi]) ∧ Gr w w' := by
  have gg := (Gr.al w (.cells #[.int .i64 tab, .slice pa pan.length pc, .int .i64 hei, .slice ta top.length tc, .slice ba bot.length bc, .int .i64 slo, .bool opn, .int .i64 off, .slice ta top.length tc, .slice ba bot.length bc] 124)).tr (Gr.al _ (.cells #[.int .i64 0, .int .i64 0] 38))
  have hb := (Box.new w [.int .i64 tab, .slice pa pan.length pc, .int .i64 hei, .slice ta top.length tc, .slice ba bot.length bc, .int .i64 slo, .bool opn, .int .i64 off, .slice ta top.length tc, .slice ba bot.length bc] 124 w.heap.size rfl).keep (Gr.al _ (.cells #[.int .i64 0, .int .i64 0] 38))
  have ob := Own.new (w.alloc (.cells #[.int .i64 tab, .slice pa pan.length pc, .int .i64 hei, .slice ta top.length tc, .slice ba bot.length bc, .int .i64 slo, .bool opn, .int .i64 off, .slice ta top.length tc, .slice ba bot.length bc] 124)) [.int .i64 0, .int .i64 0] 38 (w.heap.size + 1) (by simp)
  have hl := hr.1
  have hi2 : i < pan.length := (List.getElem?_eq_some_iff.1 hi).1
  have hi3 : (i : Int) < (pan.length : Int) := by omega
  have Hi := Lib.hid hi
  clear hi
  go_enter Try.func103, Try.ntmps103
  go_wp2
  refine wp_abs (fun W => Gr w W ∧ Box W w.heap.size [.int .i64 tab, .slice pa pan.length pc, .int .i64 hei, .slice ta top.length tc, .slice ba bot.length bc, .int .i64 slo, .bool opn, .int .i64 off, .slice ta top.length tc, .slice ba bot.length bc] ∧ Own W (w.heap.size + 1) [.int .i64 0, .int .i64 0]) ⟨gg, hb, ob⟩ ?_
  clear gg hb ob
  rintro W ⟨gg, hb, ob⟩
  have gd := Gr.dr W
  obtain ⟨b0, off0, rfl, hb0, r00⟩ := IRow.get hr Hi.out
  have r0 := (gg.tr gd).keep r00
  have hne : ¬ b0 = w.heap.size + 1 := by omega
  have hne2 : ¬ w.heap.size + 1 = b0 := by omega
  obtain ⟨d0, d1, d2, d3, d4, d5, d6, d7, d8, d9⟩ := (hb.keep gd).c10
  go_region_held3 (fun w' => w'.cell? ⟨b0, off0 + i, none⟩ = some (.int .i64 v) ∧ w'.cell? ⟨w.heap.size, 0, none⟩ = some (.int .i64 tab) ∧ w'.cell? ⟨w.heap.size, 1, none⟩ = some (.slice (some ⟨b0, off0, none⟩) pan.length pc) ∧ w'.cell? ⟨w.heap.size, 2, none⟩ = some (.int .i64 hei) ∧ w'.cell? ⟨w.heap.size, 3, none⟩ = some (.slice ta top.length tc) ∧ w'.cell? ⟨w.heap.size, 4, none⟩ = some (.slice ba bot.length bc) ∧ w'.cell? ⟨w.heap.size, 5, none⟩ = some (.int .i64 slo) ∧ w'.cell? ⟨w.heap.size, 6, none⟩ = some (.bool opn) ∧ w'.cell? ⟨w.heap.size, 7, none⟩ = some (.int .i64 off) ∧ w'.cell? ⟨w.heap.size, 8, none⟩ = some (.slice ta top.length tc) ∧ w'.cell? ⟨w.heap.size, 9, none⟩ = some (.slice ba bot.length bc)) (first | exact ⟨r0, d0, d1, d2, d3, d4, d5, d6, d7, d8, d9⟩ | exact ⟨s0, e0, e1, e2, e3, e4, e5, e6, e7, e8, e9⟩ | go_keep) (first | (go_at_call 132; (refine (near_any _ _ _ _ _ _ _ _ _ _ _ _ _ _ v 1 3000 h0 h1 h2 h3 (by omega) (by omega) _).mono ?_); rintro e w2 ⟨rfl, hx⟩; have s0 := hx.keep r0; (obtain ⟨e0, e1, e2, e3, e4, e5, e6, e7, e8, e9⟩ := (hb.keep (gd.tr hx)).c10); have ob2 := ob.keep (gd.tr hx); (obtain ⟨u0, u1⟩ := ob2.1.c2); have z0 := ob2.2 0; have z1 := ob2.2 1))
  go_wp2
  refine bodyPost_ret (v := .agg #[.int .i64 (nearL off v 1 3000).lo, .int .i64 (nearL off v 1 3000).hi]) (by simp [results, Try.results103, go_sem, u0, u1]) rfl ⟨rfl, ?_⟩
  exact ((gg.tr (gd.tr hx)).setCell (by simp) _).setCell (by simp) _

set_option maxRecDepth 100000 in
set_option maxHeartbeats 1000000 in
theorem height_any (tab hei slo off : Int) (pan top bot : List Int) (pa ta ba : Option Addr) (pc tc bc : Nat) (opn : Bool) (h0 : 0 ≤ hei) (h1 : hei ≤ 3000) (h2 : 0 ≤ off) (h3 : off ≤ 3000) (w : World) :
    Calls Try.prog 91 #[.agg #[.int .i64 tab, .slice pa pan.length pc, .int .i64 hei, .slice ta top.length tc, .slice ba bot.length bc, .int .i64 slo, .bool opn, .int .i64 off, .slice ta top.length tc, .slice ba bot.length bc]] w fun e w' => e = .returned (.agg #[.int .i64 (nearL off hei 1 3000).lo, .int .i64 (nearL off hei 1 3000).hi]) ∧ Gr w w' := by
  have gg := (Gr.al w (.cells #[.int .i64 tab, .slice pa pan.length pc, .int .i64 hei, .slice ta top.length tc, .slice ba bot.length bc, .int .i64 slo, .bool opn, .int .i64 off, .slice ta top.length tc, .slice ba bot.length bc] 124)).tr (Gr.al _ (.cells #[.int .i64 0, .int .i64 0] 38))
  have hb := (Box.new w [.int .i64 tab, .slice pa pan.length pc, .int .i64 hei, .slice ta top.length tc, .slice ba bot.length bc, .int .i64 slo, .bool opn, .int .i64 off, .slice ta top.length tc, .slice ba bot.length bc] 124 w.heap.size rfl).keep (Gr.al _ (.cells #[.int .i64 0, .int .i64 0] 38))
  have ob := Own.new (w.alloc (.cells #[.int .i64 tab, .slice pa pan.length pc, .int .i64 hei, .slice ta top.length tc, .slice ba bot.length bc, .int .i64 slo, .bool opn, .int .i64 off, .slice ta top.length tc, .slice ba bot.length bc] 124)) [.int .i64 0, .int .i64 0] 38 (w.heap.size + 1) (by simp)
  go_enter Try.func91, Try.ntmps91
  go_wp2_with fail
  refine (near_any _ _ _ _ _ _ _ _ _ _ _ _ _ _ hei 1 3000 h0 h1 h2 h3 (by omega) (by omega) _).mono ?_
  rintro e w2 ⟨rfl, hx⟩
  have ob2 := ob.keep hx
  obtain ⟨u0, u1⟩ := ob2.1.c2
  have z0 := ob2.2 0
  have z1 := ob2.2 1
  go_wp2
  refine bodyPost_ret (v := .agg #[.int .i64 (nearL off hei 1 3000).lo, .int .i64 (nearL off hei 1 3000).hi]) (by simp [results, Try.results91, go_sem, u0, u1]) rfl ⟨rfl, ?_⟩
  exact ((gg.tr hx).setCell (by simp) _).setCell (by simp) _

set_option maxRecDepth 100000 in
set_option maxHeartbeats 1000000 in
theorem slot_any (tab hei slo off : Int) (pan top bot : List Int) (pa ta ba : Option Addr) (pc tc bc : Nat) (opn : Bool) (h0 : 0 ≤ slo) (h1 : slo ≤ 3000) (h2 : 0 ≤ off) (h3 : off ≤ 3000) (w : World) :
    Calls Try.prog 92 #[.agg #[.int .i64 tab, .slice pa pan.length pc, .int .i64 hei, .slice ta top.length tc, .slice ba bot.length bc, .int .i64 slo, .bool opn, .int .i64 off, .slice ta top.length tc, .slice ba bot.length bc]] w fun e w' => e = .returned (.agg #[.int .i64 (nearL off slo 0 20).lo, .int .i64 (nearL off slo 0 20).hi]) ∧ Gr w w' := by
  have gg := (Gr.al w (.cells #[.int .i64 tab, .slice pa pan.length pc, .int .i64 hei, .slice ta top.length tc, .slice ba bot.length bc, .int .i64 slo, .bool opn, .int .i64 off, .slice ta top.length tc, .slice ba bot.length bc] 124)).tr (Gr.al _ (.cells #[.int .i64 0, .int .i64 0] 38))
  have ob := Own.new (w.alloc (.cells #[.int .i64 tab, .slice pa pan.length pc, .int .i64 hei, .slice ta top.length tc, .slice ba bot.length bc, .int .i64 slo, .bool opn, .int .i64 off, .slice ta top.length tc, .slice ba bot.length bc] 124)) [.int .i64 0, .int .i64 0] 38 (w.heap.size + 1) (by simp)
  go_enter Try.func92, Try.ntmps92
  go_wp2_with fail
  refine (near_any _ _ _ _ _ _ _ _ _ _ _ _ _ _ slo 0 20 h0 h1 h2 h3 (by omega) (by omega) _).mono ?_
  rintro e w2 ⟨rfl, hx⟩
  have ob2 := ob.keep hx
  obtain ⟨u0, u1⟩ := ob2.1.c2
  have z0 := ob2.2 0
  have z1 := ob2.2 1
  go_wp2
  refine bodyPost_ret (v := .agg #[.int .i64 (nearL off slo 0 20).lo, .int .i64 (nearL off slo 0 20).hi]) (by simp [results, Try.results92, go_sem, u0, u1]) rfl ⟨rfl, ?_⟩
  exact ((gg.tr hx).setCell (by simp) _).setCell (by simp) _

/-- What a flap can truly be: at the top (end 0), at the bottom (end 1). -/
def flapL (opn : Bool) (off : Int) (en : Nat) (v : Int) : Sp := if en = 0 ∧ opn = true then ⟨0, 0⟩ else nearL off v 0 3000

end Go.Proofs.Ytmioakcbgcgdhaa
