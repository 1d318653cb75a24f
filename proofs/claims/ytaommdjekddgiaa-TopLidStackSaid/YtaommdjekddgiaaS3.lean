/- Contracts of a sheet's flap, and of lay. -/
import Derived.Test.YtaommdjekddgiaaS2
namespace Go.Proofs.Ytaommdjekddgiaa
set_option linter.unusedVariables false
set_option linter.unusedSimpArgs false
open Go.RowKit

set_option maxRecDepth 100000 in
set_option maxHeartbeats 1000000 in
theorem flap_open (tab hei slo off : Int) (pan top bot : List Int) (pa ta ba : Option Addr) (pc tc bc : Nat) (j : Int) (w : World) :
    Calls Try.prog 106 #[.agg #[.int .i64 tab, .slice pa pan.length pc, .int .i64 hei, .slice ta top.length tc, .slice ba bot.length bc, .int .i64 slo, .bool true, .int .i64 off, .slice ta top.length tc, .slice ba bot.length bc], .int .i64 0, .int .i64 j] w fun e w' => e = .returned (.agg #[.int .i64 0, .int .i64 0]) ∧ Gr w w' := by
  go_enter Try.func106, Try.ntmps106
  go_wp2
  refine bodyPost_ret (v := .agg #[.int .i64 0, .int .i64 0]) (by simp [results, Try.results106, go_sem]) rfl ⟨rfl, ?_⟩
  exact (Gr.al _ _).tr (Gr.al _ _)

set_option maxRecDepth 100000 in
set_option maxHeartbeats 1000000 in
theorem flap_top (tab hei slo off : Int) (pan top bot : List Int) (pa ta ba : Option Addr) (pc tc bc : Nat) (i : Nat) (v : Int) (j : Int) (hj : j = (i : Int)) (hi : top[i]? = some v) (h0 : 0 ≤ v) (h1 : v ≤ 3000) (h2 : 0 ≤ off) (h3 : off ≤ 3000) (w : World) (hr : IRow w ta top) :
    Calls Try.prog 106 #[.agg #[.int .i64 tab, .slice pa pan.length pc, .int .i64 hei, .slice ta top.length tc, .slice ba bot.length bc, .int .i64 slo, .bool false, .int .i64 off, .slice ta top.length tc, .slice ba bot.length bc], .int .i64 0, .int .i64 j] w fun e w' => e = .returned (.agg #[.int .i64 (nearL off v 0 3000).lo, .int .i64 (nearL off v 0 3000).hi]) ∧ Gr w w' := by
  subst hj
  have gg := (Gr.al w (.cells #[.int .i64 tab, .slice pa pan.length pc, .int .i64 hei, .slice ta top.length tc, .slice ba bot.length bc, .int .i64 slo, .bool false, .int .i64 off, .slice ta top.length tc, .slice ba bot.length bc] 124)).tr (Gr.al _ (.cells #[.int .i64 0, .int .i64 0] 38))
  have hb := (Box.new w [.int .i64 tab, .slice pa pan.length pc, .int .i64 hei, .slice ta top.length tc, .slice ba bot.length bc, .int .i64 slo, .bool false, .int .i64 off, .slice ta top.length tc, .slice ba bot.length bc] 124 w.heap.size rfl).keep (Gr.al _ (.cells #[.int .i64 0, .int .i64 0] 38))
  have ob := Own.new (w.alloc (.cells #[.int .i64 tab, .slice pa pan.length pc, .int .i64 hei, .slice ta top.length tc, .slice ba bot.length bc, .int .i64 slo, .bool false, .int .i64 off, .slice ta top.length tc, .slice ba bot.length bc] 124)) [.int .i64 0, .int .i64 0] 38 (w.heap.size + 1) (by simp)
  have hl := hr.1
  have hi2 : i < top.length := (List.getElem?_eq_some_iff.1 hi).1
  have hi3 : (i : Int) < (top.length : Int) := by omega
  have Hi := Lib.hid hi
  clear hi
  go_enter Try.func106, Try.ntmps106
  go_wp2
  refine wp_abs (fun W => Gr w W ∧ Box W w.heap.size [.int .i64 tab, .slice pa pan.length pc, .int .i64 hei, .slice ta top.length tc, .slice ba bot.length bc, .int .i64 slo, .bool false, .int .i64 off, .slice ta top.length tc, .slice ba bot.length bc] ∧ Own W (w.heap.size + 1) [.int .i64 0, .int .i64 0]) ⟨gg, hb, ob⟩ ?_
  clear gg hb ob
  rintro W ⟨gg, hb, ob⟩
  have gd := Gr.dr W
  obtain ⟨b0, off0, rfl, hb0, r00⟩ := IRow.get hr Hi.out
  have r0 := (gg.tr gd).keep r00
  have hne : ¬ b0 = w.heap.size + 1 := by omega
  have hne2 : ¬ w.heap.size + 1 = b0 := by omega
  obtain ⟨d0, d1, d2, d3, d4, d5, d6, d7, d8, d9⟩ := (hb.keep gd).c10
  go_region_held3 (fun w' => w'.cell? ⟨b0, off0 + i, none⟩ = some (.int .i64 v) ∧ w'.cell? ⟨w.heap.size, 0, none⟩ = some (.int .i64 tab) ∧ w'.cell? ⟨w.heap.size, 1, none⟩ = some (.slice pa pan.length pc) ∧ w'.cell? ⟨w.heap.size, 2, none⟩ = some (.int .i64 hei) ∧ w'.cell? ⟨w.heap.size, 3, none⟩ = some (.slice (some ⟨b0, off0, none⟩) top.length tc) ∧ w'.cell? ⟨w.heap.size, 4, none⟩ = some (.slice ba bot.length bc) ∧ w'.cell? ⟨w.heap.size, 5, none⟩ = some (.int .i64 slo) ∧ w'.cell? ⟨w.heap.size, 6, none⟩ = some (.bool false) ∧ w'.cell? ⟨w.heap.size, 7, none⟩ = some (.int .i64 off) ∧ w'.cell? ⟨w.heap.size, 8, none⟩ = some (.slice (some ⟨b0, off0, none⟩) top.length tc) ∧ w'.cell? ⟨w.heap.size, 9, none⟩ = some (.slice ba bot.length bc)) (first | exact ⟨r0, d0, d1, d2, d3, d4, d5, d6, d7, d8, d9⟩ | exact ⟨s0, e0, e1, e2, e3, e4, e5, e6, e7, e8, e9⟩ | go_keep) (first | (go_at_call 132; (refine (near_any _ _ _ _ _ _ _ _ _ _ _ _ _ _ v 0 3000 h0 h1 h2 h3 (by omega) (by omega) _).mono ?_); rintro e w2 ⟨rfl, hx⟩; have s0 := hx.keep r0; (obtain ⟨e0, e1, e2, e3, e4, e5, e6, e7, e8, e9⟩ := (hb.keep (gd.tr hx)).c10); have ob2 := ob.keep (gd.tr hx); (obtain ⟨u0, u1⟩ := ob2.1.c2); have z0 := ob2.2 0; have z1 := ob2.2 1))
  go_wp2
  refine bodyPost_ret (v := .agg #[.int .i64 (nearL off v 0 3000).lo, .int .i64 (nearL off v 0 3000).hi]) (by simp [results, Try.results106, go_sem, u0, u1]) rfl ⟨rfl, ?_⟩
  exact ((gg.tr (gd.tr hx)).setCell (by simp) _).setCell (by simp) _

set_option maxRecDepth 100000 in
set_option maxHeartbeats 1000000 in
theorem flap_bot (tab hei slo off : Int) (pan top bot : List Int) (pa ta ba : Option Addr) (pc tc bc : Nat) (opn : Bool) (i : Nat) (v : Int) (j : Int) (hj : j = (i : Int)) (hi : bot[i]? = some v) (h0 : 0 ≤ v) (h1 : v ≤ 3000) (h2 : 0 ≤ off) (h3 : off ≤ 3000) (w : World) (hr : IRow w ba bot) :
    Calls Try.prog 106 #[.agg #[.int .i64 tab, .slice pa pan.length pc, .int .i64 hei, .slice ta top.length tc, .slice ba bot.length bc, .int .i64 slo, .bool opn, .int .i64 off, .slice ta top.length tc, .slice ba bot.length bc], .int .i64 1, .int .i64 j] w fun e w' => e = .returned (.agg #[.int .i64 (nearL off v 0 3000).lo, .int .i64 (nearL off v 0 3000).hi]) ∧ Gr w w' := by
  subst hj
  have gg := (Gr.al w (.cells #[.int .i64 tab, .slice pa pan.length pc, .int .i64 hei, .slice ta top.length tc, .slice ba bot.length bc, .int .i64 slo, .bool opn, .int .i64 off, .slice ta top.length tc, .slice ba bot.length bc] 124)).tr (Gr.al _ (.cells #[.int .i64 0, .int .i64 0] 38))
  have hb := (Box.new w [.int .i64 tab, .slice pa pan.length pc, .int .i64 hei, .slice ta top.length tc, .slice ba bot.length bc, .int .i64 slo, .bool opn, .int .i64 off, .slice ta top.length tc, .slice ba bot.length bc] 124 w.heap.size rfl).keep (Gr.al _ (.cells #[.int .i64 0, .int .i64 0] 38))
  have ob := Own.new (w.alloc (.cells #[.int .i64 tab, .slice pa pan.length pc, .int .i64 hei, .slice ta top.length tc, .slice ba bot.length bc, .int .i64 slo, .bool opn, .int .i64 off, .slice ta top.length tc, .slice ba bot.length bc] 124)) [.int .i64 0, .int .i64 0] 38 (w.heap.size + 1) (by simp)
  have hl := hr.1
  have hi2 : i < bot.length := (List.getElem?_eq_some_iff.1 hi).1
  have hi3 : (i : Int) < (bot.length : Int) := by omega
  have Hi := Lib.hid hi
  clear hi
  go_enter Try.func106, Try.ntmps106
  go_wp2
  refine wp_abs (fun W => Gr w W ∧ Box W w.heap.size [.int .i64 tab, .slice pa pan.length pc, .int .i64 hei, .slice ta top.length tc, .slice ba bot.length bc, .int .i64 slo, .bool opn, .int .i64 off, .slice ta top.length tc, .slice ba bot.length bc] ∧ Own W (w.heap.size + 1) [.int .i64 0, .int .i64 0]) ⟨gg, hb, ob⟩ ?_
  clear gg hb ob
  rintro W ⟨gg, hb, ob⟩
  have gd := Gr.dr W
  obtain ⟨b0, off0, rfl, hb0, r00⟩ := IRow.get hr Hi.out
  have r0 := (gg.tr gd).keep r00
  have hne : ¬ b0 = w.heap.size + 1 := by omega
  have hne2 : ¬ w.heap.size + 1 = b0 := by omega
  obtain ⟨d0, d1, d2, d3, d4, d5, d6, d7, d8, d9⟩ := (hb.keep gd).c10
  go_region_held3 (fun w' => w'.cell? ⟨b0, off0 + i, none⟩ = some (.int .i64 v) ∧ w'.cell? ⟨w.heap.size, 0, none⟩ = some (.int .i64 tab) ∧ w'.cell? ⟨w.heap.size, 1, none⟩ = some (.slice pa pan.length pc) ∧ w'.cell? ⟨w.heap.size, 2, none⟩ = some (.int .i64 hei) ∧ w'.cell? ⟨w.heap.size, 3, none⟩ = some (.slice ta top.length tc) ∧ w'.cell? ⟨w.heap.size, 4, none⟩ = some (.slice (some ⟨b0, off0, none⟩) bot.length bc) ∧ w'.cell? ⟨w.heap.size, 5, none⟩ = some (.int .i64 slo) ∧ w'.cell? ⟨w.heap.size, 6, none⟩ = some (.bool opn) ∧ w'.cell? ⟨w.heap.size, 7, none⟩ = some (.int .i64 off) ∧ w'.cell? ⟨w.heap.size, 8, none⟩ = some (.slice ta top.length tc) ∧ w'.cell? ⟨w.heap.size, 9, none⟩ = some (.slice (some ⟨b0, off0, none⟩) bot.length bc)) (first | exact ⟨r0, d0, d1, d2, d3, d4, d5, d6, d7, d8, d9⟩ | exact ⟨s0, e0, e1, e2, e3, e4, e5, e6, e7, e8, e9⟩ | go_keep) (first | (go_at_call 132; (refine (near_any _ _ _ _ _ _ _ _ _ _ _ _ _ _ v 0 3000 h0 h1 h2 h3 (by omega) (by omega) _).mono ?_); rintro e w2 ⟨rfl, hx⟩; have s0 := hx.keep r0; (obtain ⟨e0, e1, e2, e3, e4, e5, e6, e7, e8, e9⟩ := (hb.keep (gd.tr hx)).c10); have ob2 := ob.keep (gd.tr hx); (obtain ⟨u0, u1⟩ := ob2.1.c2); have z0 := ob2.2 0; have z1 := ob2.2 1))
  go_wp2
  refine bodyPost_ret (v := .agg #[.int .i64 (nearL off v 0 3000).lo, .int .i64 (nearL off v 0 3000).hi]) (by simp [results, Try.results106, go_sem, u0, u1]) rfl ⟨rfl, ?_⟩
  exact ((gg.tr (gd.tr hx)).setCell (by simp) _).setCell (by simp) _

set_option maxRecDepth 100000 in
theorem layS_any (tab hei slo off : Int) (pan top bot : List Int) (pa ta ba : Option Addr) (pc tc bc : Nat) (opn : Bool) (w : World) :
    Calls Try.prog 48 #[.agg #[.int .i64 tab, .slice pa pan.length pc, .int .i64 hei, .slice ta top.length tc, .slice ba bot.length bc, .int .i64 slo, .bool opn], .int .i64 off] w fun e w' => e = .returned (.agg #[.int .i64 tab, .slice pa pan.length pc, .int .i64 hei, .slice ta top.length tc, .slice ba bot.length bc, .int .i64 slo, .bool opn, .int .i64 off, .slice ta top.length tc, .slice ba bot.length bc]) ∧ Gr w w' := by
  go_enter Try.func48, Try.ntmps48
  go_wp2
  refine bodyPost_ret (v := .agg #[.int .i64 tab, .slice pa pan.length pc, .int .i64 hei, .slice ta top.length tc, .slice ba bot.length bc, .int .i64 slo, .bool opn, .int .i64 off, .slice ta top.length tc, .slice ba bot.length bc]) (by simp [results, Try.results48, go_sem]) rfl ⟨rfl, ?_⟩
  exact (Gr.al _ _).tr (Gr.al _ _)

end Go.Proofs.Ytaommdjekddgiaa
