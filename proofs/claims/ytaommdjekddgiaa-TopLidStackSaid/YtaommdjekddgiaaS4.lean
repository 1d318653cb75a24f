/- Contracts of a sheet's flat. -/
import Derived.Test.YtaommdjekddgiaaS3
namespace Go.Proofs.Ytaommdjekddgiaa
set_option linter.unusedVariables false
set_option linter.unusedSimpArgs false
open Go.RowKit

theorem less_one (s : Sp) (c d : Int) (hs : SpB 1000000000 s) (hl : SpB 1000000000 ⟨c, d⟩) (ad : Option Addr) (cap : Nat) (w : World) (hr : SRow w ad [⟨c, d⟩]) :
    Calls Try.prog 58 #[.agg #[.int .i64 s.lo, .int .i64 s.hi], .slice ad 1 cap] w fun e w' => e = .returned (.agg #[.int .i64 (s.lo - d), .int .i64 (s.hi - c)]) ∧ Gr w w' :=
  less_any s [⟨c, d⟩] (by simp) hs (by intro x hx; simp at hx; subst hx; exact hl) ad cap w hr

theorem near_bd {off m lo hi : Int} (h0 : 0 ≤ m) (h1 : m ≤ 3000) (h2 : 0 ≤ off) (h3 : off ≤ 3000) (h4 : 0 ≤ lo) (h5 : lo ≤ 3000) (h6 : 0 ≤ hi) (h7 : hi ≤ 3000) :
    0 ≤ (nearL off m lo hi).lo ∧ (nearL off m lo hi).lo ≤ 3000 ∧ 0 ≤ (nearL off m lo hi).hi ∧ (nearL off m lo hi).hi ≤ 3000 := by
  unfold nearL
  simp only
  omega

set_option maxRecDepth 100000 in
set_option maxHeartbeats 1000000 in
theorem flat_panel (tab hei slo off : Int) (pan top bot : List Int) (pa ta ba : Option Addr) (pc tc bc : Nat) (opn : Bool) (i : Nat) (v : Int) (hi4 : i < 4) (hi : pan[i]? = some v) (h0 : 0 ≤ v) (h1 : v ≤ 3000) (h2 : 0 ≤ off) (h3 : off ≤ 3000) (w : World) (hr : IRow w pa pan) :
    Calls Try.prog 60 #[.agg #[.int .i64 tab, .slice pa pan.length pc, .int .i64 hei, .slice ta top.length tc, .slice ba bot.length bc, .int .i64 slo, .bool opn, .int .i64 off, .slice ta top.length tc, .slice ba bot.length bc], .int .i64 i] w fun e w' => e = .returned (.agg #[.int .i64 (1000 * (nearL off v 1 3000).lo), .int .i64 (1000 * (nearL off v 1 3000).hi)]) ∧ Gr w w' := by
  have gg := (Gr.al w (.cells #[.int .i64 tab, .slice pa pan.length pc, .int .i64 hei, .slice ta top.length tc, .slice ba bot.length bc, .int .i64 slo, .bool opn, .int .i64 off, .slice ta top.length tc, .slice ba bot.length bc] 124)).tr (Gr.al _ (.cells #[.int .i64 0, .int .i64 0] 38))
  have ob := Own.new (w.alloc (.cells #[.int .i64 tab, .slice pa pan.length pc, .int .i64 hei, .slice ta top.length tc, .slice ba bot.length bc, .int .i64 slo, .bool opn, .int .i64 off, .slice ta top.length tc, .slice ba bot.length bc] 124)) [.int .i64 0, .int .i64 0] 38 (w.heap.size + 1) (by simp)
  obtain ⟨n0, n1, n2, n3⟩ := near_bd (lo := 1) (hi := 3000) h0 h1 h2 h3 (by omega) (by omega) (by omega) (by omega)
  have Hi := Lib.hid hi
  have hr1 := hr.grow gg
  have hk : (i : Int) < 4 := by omega
  clear hi
  go_enter Try.func60, Try.ntmps60
  go_wp2_with fail
  refine (panel_any _ _ _ _ _ _ _ _ _ _ _ _ _ _ i v Hi.out h0 h1 h2 h3 _ hr1).mono ?_
  rintro e w2 ⟨rfl, hx⟩
  go_wp2_with fail
  refine (times_any 1000 _ _ (by omega) (by omega) (by omega) (by omega) _).mono ?_
  rintro e w3 ⟨rfl, hy⟩
  have ob2 := ob.keep (hx.tr hy)
  obtain ⟨u0, u1⟩ := ob2.1.c2
  have z0 := ob2.2 0
  have z1 := ob2.2 1
  go_wp2
  refine bodyPost_ret (v := .agg #[.int .i64 (1000 * (nearL off v 1 3000).lo), .int .i64 (1000 * (nearL off v 1 3000).hi)]) (by simp [results, Try.results60, go_sem, u0, u1]) rfl ⟨rfl, ?_⟩
  exact ((gg.tr (hx.tr hy)).setCell (by simp) _).setCell (by simp) _

set_option maxRecDepth 100000 in
set_option maxHeartbeats 1000000 in
theorem flat_height (tab hei slo off : Int) (pan top bot : List Int) (pa ta ba : Option Addr) (pc tc bc : Nat) (opn : Bool) (h0 : 0 ≤ hei) (h1 : hei ≤ 3000) (h2 : 0 ≤ off) (h3 : off ≤ 3000) (w : World) :
    Calls Try.prog 60 #[.agg #[.int .i64 tab, .slice pa pan.length pc, .int .i64 hei, .slice ta top.length tc, .slice ba bot.length bc, .int .i64 slo, .bool opn, .int .i64 off, .slice ta top.length tc, .slice ba bot.length bc], .int .i64 4] w fun e w' => e = .returned (.agg #[.int .i64 (1000 * (nearL off hei 1 3000).lo), .int .i64 (1000 * (nearL off hei 1 3000).hi)]) ∧ Gr w w' := by
  have gg := (Gr.al w (.cells #[.int .i64 tab, .slice pa pan.length pc, .int .i64 hei, .slice ta top.length tc, .slice ba bot.length bc, .int .i64 slo, .bool opn, .int .i64 off, .slice ta top.length tc, .slice ba bot.length bc] 124)).tr (Gr.al _ (.cells #[.int .i64 0, .int .i64 0] 38))
  have ob := Own.new (w.alloc (.cells #[.int .i64 tab, .slice pa pan.length pc, .int .i64 hei, .slice ta top.length tc, .slice ba bot.length bc, .int .i64 slo, .bool opn, .int .i64 off, .slice ta top.length tc, .slice ba bot.length bc] 124)) [.int .i64 0, .int .i64 0] 38 (w.heap.size + 1) (by simp)
  obtain ⟨n0, n1, n2, n3⟩ := near_bd (lo := 1) (hi := 3000) h0 h1 h2 h3 (by omega) (by omega) (by omega) (by omega)
  go_enter Try.func60, Try.ntmps60
  go_wp2_with fail
  refine (height_any _ _ _ _ _ _ _ _ _ _ _ _ _ _ h0 h1 h2 h3 _).mono ?_
  rintro e w2 ⟨rfl, hx⟩
  go_wp2_with fail
  refine (times_any 1000 _ _ (by omega) (by omega) (by omega) (by omega) _).mono ?_
  rintro e w3 ⟨rfl, hy⟩
  have ob2 := ob.keep (hx.tr hy)
  obtain ⟨u0, u1⟩ := ob2.1.c2
  have z0 := ob2.2 0
  have z1 := ob2.2 1
  go_wp2
  refine bodyPost_ret (v := .agg #[.int .i64 (1000 * (nearL off hei 1 3000).lo), .int .i64 (1000 * (nearL off hei 1 3000).hi)]) (by simp [results, Try.results60, go_sem, u0, u1]) rfl ⟨rfl, ?_⟩
  exact ((gg.tr (hx.tr hy)).setCell (by simp) _).setCell (by simp) _

/-- A gap: what is left of a panel beside two flaps. -/
def gapS (p f : Sp) : Sp := ⟨1000 * p.lo - 2000 * f.hi, 1000 * p.hi - 2000 * f.lo⟩

set_option maxRecDepth 100000 in
set_option maxHeartbeats 2000000 in
/-- The gap of check k, whose panel is pan[i], whose flap is f. -/
theorem flat_gap (tab hei slo off : Int) (pan top bot : List Int) (pa ta ba : Option Addr) (pc tc bc : Nat) (opn : Bool) (k kind : Int) (i : Nat) (v : Int) (f : Sp) (hk0 : 5 ≤ k) (hk1 : k ≤ 8) (hkind : kind = (k - 5) % 2) (hik : 1 - kind = (i : Int)) (hi : pan[i]? = some v) (h0 : 0 ≤ v) (h1 : v ≤ 3000) (h2 : 0 ≤ off) (h3 : off ≤ 3000)
    (f0 : 0 ≤ f.lo) (f1 : f.lo ≤ 3000) (f2 : 0 ≤ f.hi) (f3 : f.hi ≤ 3000) (w : World) (hr : IRow w pa pan)
    (hf : ∀ W, Gr w W → Calls Try.prog 106 #[.agg #[.int .i64 tab, .slice pa pan.length pc, .int .i64 hei, .slice ta top.length tc, .slice ba bot.length bc, .int .i64 slo, .bool opn, .int .i64 off, .slice ta top.length tc, .slice ba bot.length bc], .int .i64 ((k - 5) / 2), .int .i64 kind] W fun e w' => e = .returned (.agg #[.int .i64 f.lo, .int .i64 f.hi]) ∧ Gr W w') :
    Calls Try.prog 60 #[.agg #[.int .i64 tab, .slice pa pan.length pc, .int .i64 hei, .slice ta top.length tc, .slice ba bot.length bc, .int .i64 slo, .bool opn, .int .i64 off, .slice ta top.length tc, .slice ba bot.length bc], .int .i64 k] w fun e w' => e = .returned (.agg #[.int .i64 (gapS (nearL off v 1 3000) f).lo, .int .i64 (gapS (nearL off v 1 3000) f).hi]) ∧ Gr w w' := by
  have gg := (Gr.al w (.cells #[.int .i64 tab, .slice pa pan.length pc, .int .i64 hei, .slice ta top.length tc, .slice ba bot.length bc, .int .i64 slo, .bool opn, .int .i64 off, .slice ta top.length tc, .slice ba bot.length bc] 124)).tr (Gr.al _ (.cells #[.int .i64 0, .int .i64 0] 38))
  have hb := (Box.new w [.int .i64 tab, .slice pa pan.length pc, .int .i64 hei, .slice ta top.length tc, .slice ba bot.length bc, .int .i64 slo, .bool opn, .int .i64 off, .slice ta top.length tc, .slice ba bot.length bc] 124 w.heap.size rfl).keep (Gr.al _ (.cells #[.int .i64 0, .int .i64 0] 38))
  have ob := Own.new (w.alloc (.cells #[.int .i64 tab, .slice pa pan.length pc, .int .i64 hei, .slice ta top.length tc, .slice ba bot.length bc, .int .i64 slo, .bool opn, .int .i64 off, .slice ta top.length tc, .slice ba bot.length bc] 124)) [.int .i64 0, .int .i64 0] 38 (w.heap.size + 1) (by simp)
  obtain ⟨n0, n1, n2, n3⟩ := near_bd (lo := 1) (hi := 3000) h0 h1 h2 h3 (by omega) (by omega) (by omega) (by omega)
  have Hi := Lib.hid hi
  have Hf := Lib.hid hf
  have hk4 : ¬ k < 4 := by omega
  have hk5 : (k == 4) = false := by rw [beq_eq_false_iff_ne]; omega
  have hk6 : (k == 9) = false := by rw [beq_eq_false_iff_ne]; omega
  have d0 : 0 ≤ kind := by omega
  have d1 : kind ≤ 1 := by omega
  have HK := Lib.hid hkind
  have HI := Lib.hid hik
  clear hi hf hkind hik
  go_enter Try.func60, Try.ntmps60
  go_wp2_with fail
  refine (gap_any k hk0 hk1 _).mono ?_
  rintro e w' ⟨rfl, rfl⟩
  rw [← HK.out]
  go_wp2
  refine wp_abs (fun W => Gr w W ∧ Box W w.heap.size [.int .i64 tab, .slice pa pan.length pc, .int .i64 hei, .slice ta top.length tc, .slice ba bot.length bc, .int .i64 slo, .bool opn, .int .i64 off, .slice ta top.length tc, .slice ba bot.length bc] ∧ Own W (w.heap.size + 1) [.int .i64 0, .int .i64 0]) ⟨gg, hb, ob⟩ ?_
  clear gg hb ob
  rintro W ⟨gg, hb, ob⟩
  have gX := Gr.dr W
  obtain ⟨e0, e1, e2, e3, e4, e5, e6, e7, e8, e9⟩ := (hb.keep gX).c10
  have tok1 : True := trivial
  go_region_held3 (fun w' => w'.cell? ⟨w.heap.size, 0, none⟩ = some (.int .i64 tab) ∧ w'.cell? ⟨w.heap.size, 1, none⟩ = some (.slice pa pan.length pc) ∧ w'.cell? ⟨w.heap.size, 2, none⟩ = some (.int .i64 hei) ∧ w'.cell? ⟨w.heap.size, 3, none⟩ = some (.slice ta top.length tc) ∧ w'.cell? ⟨w.heap.size, 4, none⟩ = some (.slice ba bot.length bc) ∧ w'.cell? ⟨w.heap.size, 5, none⟩ = some (.int .i64 slo) ∧ w'.cell? ⟨w.heap.size, 6, none⟩ = some (.bool opn) ∧ w'.cell? ⟨w.heap.size, 7, none⟩ = some (.int .i64 off) ∧ w'.cell? ⟨w.heap.size, 8, none⟩ = some (.slice ta top.length tc) ∧ w'.cell? ⟨w.heap.size, 9, none⟩ = some (.slice ba bot.length bc)) (first | exact ⟨e0, e1, e2, e3, e4, e5, e6, e7, e8, e9⟩ | go_keep) (first
    | (go_at_call 105; (refine (over_any kind d0 d1 _).mono ?_); rintro e w2 ⟨rfl, rfl⟩)
    | (go_at_call 103; rw [HI.out]; (refine (panel_any _ _ _ _ _ _ _ _ _ _ _ _ _ _ i v Hi.out h0 h1 h2 h3 _ (hr.grow (gg.tr gX))).mono ?_); rintro e w3 ⟨rfl, hx⟩; replace gX := gX.tr hx; obtain ⟨e0, e1, e2, e3, e4, e5, e6, e7, e8, e9⟩ := (hb.keep gX).c10)
    | (go_at_call 102; have _t := tok1; (refine (times_any 1000 _ _ (by omega) (by omega) (by omega) (by omega) _).mono ?_); clear tok1 _t; rintro e w4 ⟨rfl, hx⟩; replace gX := gX.tr hx; obtain ⟨e0, e1, e2, e3, e4, e5, e6, e7, e8, e9⟩ := (hb.keep gX).c10)
    | (go_at_call 106; (refine (Hf.out _ (gg.tr gX)).mono ?_); rintro e w5 ⟨rfl, hx⟩; replace gX := gX.tr hx; obtain ⟨e0, e1, e2, e3, e4, e5, e6, e7, e8, e9⟩ := (hb.keep gX).c10)
    | (go_at_call 102; (refine (times_any 2000 _ _ (by omega) (by omega) (by omega) (by omega) _).mono ?_); rintro e w6 ⟨rfl, hx⟩; replace gX := gX.tr hx; obtain ⟨e0, e1, e2, e3, e4, e5, e6, e7, e8, e9⟩ := (hb.keep gX).c10)
    | (go_at_call 58; (refine (less_one ⟨1000 * (nearL off v 1 3000).lo, 1000 * (nearL off v 1 3000).hi⟩ (2000 * f.lo) (2000 * f.hi) ⟨by simp only; omega, by simp only; omega, by simp only; omega, by simp only; omega⟩ ⟨by simp only; omega, by simp only; omega, by simp only; omega, by simp only; omega⟩ _ _ _ (SRow.new1 _ _ _ _ _ rfl)).mono ?_); rintro e w7 ⟨rfl, hx⟩; replace gX := gX.tr ((Gr.al _ _).tr hx); (obtain ⟨e0, e1, e2, e3, e4, e5, e6, e7, e8, e9⟩ := (hb.keep gX).c10); have ob2 := ob.keep gX; (obtain ⟨u0, u1⟩ := ob2.1.c2); have z0 := ob2.2 0; have z1 := ob2.2 1))
  all_goals
    go_wp2
    refine bodyPost_ret (v := .agg #[.int .i64 (gapS (nearL off v 1 3000) f).lo, .int .i64 (gapS (nearL off v 1 3000) f).hi]) (by simp [results, Try.results60, go_sem, u0, u1, gapS]) rfl ⟨rfl, ?_⟩
    exact ((gg.tr gX).setCell (by simp) _).setCell (by simp) _

end Go.Proofs.Ytaommdjekddgiaa
