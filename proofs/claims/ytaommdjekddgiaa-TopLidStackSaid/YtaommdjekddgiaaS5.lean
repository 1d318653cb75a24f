/- Contract of a sheet's inside. -/
import Derived.Test.YtaommdjekddgiaaS4
namespace Go.Proofs.Ytaommdjekddgiaa
set_option linter.unusedVariables false
set_option linter.unusedSimpArgs false
open Go.RowKit

theorem lost_mul {k c : Int} {opn : Bool} (h0 : 0 ≤ c) (h1 : c ≤ 10000) : 0 ≤ lostL k opn * c ∧ lostL k opn * c ≤ 20000 := by
  unfold lostL
  split <;> omega

def insideS (F : Sp) (L cl ch : Int) : Sp := ⟨F.lo - L * ch, F.hi - L * cl⟩

set_option maxRecDepth 100000 in
set_option maxHeartbeats 2000000 in
theorem inside_of (tab hei slo off : Int) (pan top bot : List Int) (pa ta ba : Option Addr) (pc tc bc : Nat) (opn : Bool) (k cl ch : Int) (F : Sp) (hF : SpB 10000000 F) (h0 : 0 ≤ cl) (h1 : cl ≤ 10000) (h2 : 0 ≤ ch) (h3 : ch ≤ 10000) (w : World)
    (hf : ∀ W, Gr w W → Calls Try.prog 60 #[.agg #[.int .i64 tab, .slice pa pan.length pc, .int .i64 hei, .slice ta top.length tc, .slice ba bot.length bc, .int .i64 slo, .bool opn, .int .i64 off, .slice ta top.length tc, .slice ba bot.length bc], .int .i64 k] W fun e w' => e = .returned (.agg #[.int .i64 F.lo, .int .i64 F.hi]) ∧ Gr W w') :
    Calls Try.prog 59 #[.agg #[.int .i64 tab, .slice pa pan.length pc, .int .i64 hei, .slice ta top.length tc, .slice ba bot.length bc, .int .i64 slo, .bool opn, .int .i64 off, .slice ta top.length tc, .slice ba bot.length bc], .int .i64 k, .agg #[.int .i64 cl, .int .i64 ch]] w fun e w' => e = .returned (.agg #[.int .i64 (insideS F (lostL k opn) cl ch).lo, .int .i64 (insideS F (lostL k opn) cl ch).hi]) ∧ Gr w w' := by
  have gg := ((Gr.al w (.cells #[.int .i64 tab, .slice pa pan.length pc, .int .i64 hei, .slice ta top.length tc, .slice ba bot.length bc, .int .i64 slo, .bool opn, .int .i64 off, .slice ta top.length tc, .slice ba bot.length bc] 124)).tr (Gr.al _ (.cells #[.int .i64 cl, .int .i64 ch] 38))).tr (Gr.al _ (.cells #[.int .i64 0, .int .i64 0] 38))
  have hb := (Box.new w [.int .i64 tab, .slice pa pan.length pc, .int .i64 hei, .slice ta top.length tc, .slice ba bot.length bc, .int .i64 slo, .bool opn, .int .i64 off, .slice ta top.length tc, .slice ba bot.length bc] 124 w.heap.size rfl).keep ((Gr.al _ (.cells #[.int .i64 cl, .int .i64 ch] 38)).tr (Gr.al _ (.cells #[.int .i64 0, .int .i64 0] 38)))
  have hc := (Box.new (w.alloc (.cells #[.int .i64 tab, .slice pa pan.length pc, .int .i64 hei, .slice ta top.length tc, .slice ba bot.length bc, .int .i64 slo, .bool opn, .int .i64 off, .slice ta top.length tc, .slice ba bot.length bc] 124)) [.int .i64 cl, .int .i64 ch] 38 (w.heap.size + 1) (by simp)).keep (Gr.al _ (.cells #[.int .i64 0, .int .i64 0] 38))
  have ob := Own.new ((w.alloc (.cells #[.int .i64 tab, .slice pa pan.length pc, .int .i64 hei, .slice ta top.length tc, .slice ba bot.length bc, .int .i64 slo, .bool opn, .int .i64 off, .slice ta top.length tc, .slice ba bot.length bc] 124)).alloc (.cells #[.int .i64 cl, .int .i64 ch] 38)) [.int .i64 0, .int .i64 0] 38 (w.heap.size + 1 + 1) (by simp)
  obtain ⟨m0, m1⟩ := lost_mul (k := k) (opn := opn) h0 h1
  obtain ⟨m2, m3⟩ := lost_mul (k := k) (opn := opn) h2 h3
  obtain ⟨f0, f1, f2, f3⟩ := hF
  have Hf := Lib.hid hf
  clear hf
  go_enter Try.func59, Try.ntmps59
  go_wp2
  refine wp_abs (fun W => Gr w W ∧ Box W w.heap.size [.int .i64 tab, .slice pa pan.length pc, .int .i64 hei, .slice ta top.length tc, .slice ba bot.length bc, .int .i64 slo, .bool opn, .int .i64 off, .slice ta top.length tc, .slice ba bot.length bc] ∧ Box W (w.heap.size + 1) [.int .i64 cl, .int .i64 ch] ∧ Own W (w.heap.size + 1 + 1) [.int .i64 0, .int .i64 0]) ⟨gg, hb, hc, ob⟩ ?_
  clear gg hb hc ob
  rintro W ⟨gg, hb, hc, ob⟩
  have gX := Gr.dr W
  have ne2 : ¬ w.heap.size + 1 + 1 = w.heap.size := by omega
  have ne3 : ¬ w.heap.size = w.heap.size + 1 + 1 := by omega
  obtain ⟨e0, e1, e2, e3, e4, e5, e6, e7, e8, e9⟩ := (hb.keep gX).c10
  obtain ⟨q0, q1⟩ := (hc.keep gX).c2
  go_region_held3 (fun w' => w'.cell? ⟨w.heap.size + 1, 0, none⟩ = some (.int .i64 cl) ∧ w'.cell? ⟨w.heap.size + 1, 1, none⟩ = some (.int .i64 ch) ∧ w'.cell? ⟨w.heap.size, 0, none⟩ = some (.int .i64 tab) ∧ w'.cell? ⟨w.heap.size, 1, none⟩ = some (.slice pa pan.length pc) ∧ w'.cell? ⟨w.heap.size, 2, none⟩ = some (.int .i64 hei) ∧ w'.cell? ⟨w.heap.size, 3, none⟩ = some (.slice ta top.length tc) ∧ w'.cell? ⟨w.heap.size, 4, none⟩ = some (.slice ba bot.length bc) ∧ w'.cell? ⟨w.heap.size, 5, none⟩ = some (.int .i64 slo) ∧ w'.cell? ⟨w.heap.size, 6, none⟩ = some (.bool opn) ∧ w'.cell? ⟨w.heap.size, 7, none⟩ = some (.int .i64 off) ∧ w'.cell? ⟨w.heap.size, 8, none⟩ = some (.slice ta top.length tc) ∧ w'.cell? ⟨w.heap.size, 9, none⟩ = some (.slice ba bot.length bc)) (first | exact ⟨q0, q1, e0, e1, e2, e3, e4, e5, e6, e7, e8, e9⟩ | go_keep) (first
    | (go_at_call 60; (refine (Hf.out _ (gg.tr gX)).mono ?_); rintro e w3 ⟨rfl, hx⟩; replace gX := gX.tr hx; (obtain ⟨e0, e1, e2, e3, e4, e5, e6, e7, e8, e9⟩ := (hb.keep gX).c10); obtain ⟨q0, q1⟩ := (hc.keep gX).c2)
    | (go_at_call 93; (refine (lost_any _ _ _ _ _ _ _ _ _ _ _ _ _ _ k _).mono ?_); rintro e w4 ⟨rfl, hx⟩; replace gX := gX.tr hx; (obtain ⟨e0, e1, e2, e3, e4, e5, e6, e7, e8, e9⟩ := (hb.keep gX).c10); obtain ⟨q0, q1⟩ := (hc.keep gX).c2)
    | (go_at_call 102; (refine (times_any (lostL k opn) cl ch (by omega) (by omega) (by omega) (by omega) _).mono ?_); rintro e w5 ⟨rfl, hx⟩; replace gX := gX.tr hx; (obtain ⟨e0, e1, e2, e3, e4, e5, e6, e7, e8, e9⟩ := (hb.keep gX).c10); obtain ⟨q0, q1⟩ := (hc.keep gX).c2)
    | (go_at_call 58; (refine (less_one F (lostL k opn * cl) (lostL k opn * ch) ⟨by omega, by omega, by omega, by omega⟩ ⟨by simp only; omega, by simp only; omega, by simp only; omega, by simp only; omega⟩ _ _ _ (SRow.new1 _ _ _ _ _ rfl)).mono ?_); rintro e w7 ⟨rfl, hx⟩; replace gX := gX.tr ((Gr.al _ _).tr hx); (obtain ⟨e0, e1, e2, e3, e4, e5, e6, e7, e8, e9⟩ := (hb.keep gX).c10); (obtain ⟨q0, q1⟩ := (hc.keep gX).c2); have ob2 := ob.keep gX; (obtain ⟨u0, u1⟩ := ob2.1.c2); have z0 := ob2.2 0; have z1 := ob2.2 1))
  all_goals
    go_wp2
    refine bodyPost_ret (v := .agg #[.int .i64 (insideS F (lostL k opn) cl ch).lo, .int .i64 (insideS F (lostL k opn) cl ch).hi]) (by simp [results, Try.results59, go_sem, u0, u1, insideS]) rfl ⟨rfl, ?_⟩
    exact ((gg.tr gX).setCell (by simp; omega) _).setCell (by simp; omega) _

end Go.Proofs.Ytaommdjekddgiaa
