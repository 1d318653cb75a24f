/- Contracts of a sheet's flute and take. -/
import Derived.Test.YtmioakcbgcgdhaaB5
import Derived.StillTailTactics
import Derived.Deep.RegionHeld3
namespace Go.Proofs.Ytmioakcbgcgdhaa
set_option linter.unusedVariables false
set_option linter.unusedSimpArgs false
open Go.RowKit

/-- The flute of a store by its number. -/
def fluteN (fs : List Flute) (n : Int) : Flute := fs.getD n.toNat ⟨1, 1, 1, 1⟩

set_option maxRecDepth 100000 in
set_option maxHeartbeats 1000000 in
theorem flute_any (mp mf : List Int) (ps : List Paper) (fs : List Flute) (parts : Int) (m : Option Nat) (pa fa ma ga : Option Addr) (pc fc mc gc : Nat) (j : Int) (i : Nat) (hj : j = (i : Int)) (n : Nat) (f : Flute) (hi : mf[i]? = some (n : Int)) (hn : fs[n]? = some f) (w : World) (hf : FRow w fa fs) (hg : IRow w ga mf) :
    Calls Try.prog 75 #[.agg #[.slice ma mp.length mc, .slice ga mf.length gc, .slice pa ps.length pc, .slice fa fs.length fc, .int .i64 parts, .map m], .int .i64 j] w fun e w' =>
      e = .returned (.agg #[.int .i64 f.pitch, .int .i64 f.draw, .int .i64 f.hlo, .int .i64 f.hhi]) ∧ Gr w w' := by
  subst hj
  have hl2 := hf.1
  have hl4 := hg.1
  have hi2 : i < mf.length := (List.getElem?_eq_some_iff.1 hi).1
  have hn2 : n < fs.length := (List.getElem?_eq_some_iff.1 hn).1
  have hi3 : (i : Int) < (mf.length : Int) := by omega
  have hn3 : (n : Int) < (fs.length : Int) := by omega
  have gg := Gr.tr (Gr.al w (.cells #[.slice ma mp.length mc, .slice ga mf.length gc, .slice pa ps.length pc, .slice fa fs.length fc, .int .i64 parts, .map m] 109)) (Gr.al _ (.cells #[.int .i64 0, .int .i64 0, .int .i64 0, .int .i64 0] 103))
  have Hi := Lib.hid hi
  have Hn := Lib.hid hn
  clear hi hn
  have ho := Own.new (w.alloc (.cells #[.slice ma mp.length mc, .slice ga mf.length gc, .slice pa ps.length pc, .slice fa fs.length fc, .int .i64 parts, .map m] 109)) [.int .i64 0, .int .i64 0, .int .i64 0, .int .i64 0] 103 (w.heap.size + 1) (by simp)
  have hb := (Box.new w [.slice ma mp.length mc, .slice ga mf.length gc, .slice pa ps.length pc, .slice fa fs.length fc, .int .i64 parts, .map m] 109 w.heap.size rfl).keep (Gr.al _ (.cells #[.int .i64 0, .int .i64 0, .int .i64 0, .int .i64 0] 103))
  have hg1 := hg.grow gg
  have hf1 := hf.grow gg
  go_enter Try.func75, Try.ntmps75
  go_wp2
  refine wp_abs (fun W => Gr w W ∧ Own W (w.heap.size + 1) [.int .i64 0, .int .i64 0, .int .i64 0, .int .i64 0] ∧ Box W w.heap.size [.slice ma mp.length mc, .slice ga mf.length gc, .slice pa ps.length pc, .slice fa fs.length fc, .int .i64 parts, .map m] ∧ IRow W ga mf ∧ FRow W fa fs) ⟨gg, ho, hb, hg1, hf1⟩ ?_
  clear gg ho hb hg1 hf1
  rintro W ⟨gg, ho, hb, hg1, hf1⟩
  obtain ⟨b0, off0, rfl, hb0, r0⟩ := IRow.get hg1 Hi.out
  obtain ⟨b1, off1, rfl, hb1, s0, s1, s2, s3⟩ := FRow.get hf1 Hn.out
  obtain ⟨t0, t1, t2, t3⟩ := ho.1.c4
  obtain ⟨q0, q1, q2, q3, q4, q5⟩ := hb.c6
  have f0 := ho.2 0
  have f1 := ho.2 1
  have f2 := ho.2 2
  have f3 := ho.2 3
  go_still_tail 11, (by kernel_rfl)
  change wpList _ _ _ _ _ W.drew
  go_wp2
  refine bodyPost_ret (v := .agg #[.int .i64 f.pitch, .int .i64 f.draw, .int .i64 f.hlo, .int .i64 f.hhi]) (by simp [results, Try.results75, go_sem, t0, t1, t2, t3]) rfl ⟨rfl, ?_⟩
  exact ((((gg.drew).setCell (by simp) _).setCell (by simp) _).setCell (by simp) _).setCell (by simp) _

set_option maxRecDepth 100000 in
set_option maxHeartbeats 1000000 in
theorem take_even (mp mf : List Int) (ps : List Paper) (fs : List Flute) (parts : Int) (m : Option Nat) (pa fa ma ga : Option Addr) (pc fc mc gc : Nat) (k : Nat) (hk : k ≤ 100) (hk1 : (kindL (k : Int) == 1) = true) (w : World) :
    Calls Try.prog 76 #[.agg #[.slice ma mp.length mc, .slice ga mf.length gc, .slice pa ps.length pc, .slice fa fs.length fc, .int .i64 parts, .map m], .int .i64 k] w fun e w' =>
      e = .returned (.int .i64 parts) ∧ Gr w w' := by
  have gg := Gr.al w (.cells #[.slice ma mp.length mc, .slice ga mf.length gc, .slice pa ps.length pc, .slice fa fs.length fc, .int .i64 parts, .map m] 109)
  go_enter Try.func76, Try.ntmps76
  go_wp2_with (go_at_call 74; refine (kindAt_any k (by omega) _).mono ?_; rintro e w' ⟨rfl, rfl⟩)
  go_ret
  exact ⟨rfl, gg⟩

set_option maxRecDepth 100000 in
set_option maxHeartbeats 1000000 in
theorem take_odd (mp mf : List Int) (ps : List Paper) (fs : List Flute) (parts : Int) (m : Option Nat) (pa fa ma ga : Option Addr) (pc fc mc gc : Nat) (k i n : Nat) (hk : k ≤ 100) (hk0 : 2 * i + 1 ≤ k) (hk2 : k ≤ 2 * i + 1) (hk1 : (kindL (k : Int) == 1) = false)
    (f : Flute) (hi : mf[i]? = some (n : Int)) (hn : fs[n]? = some f) (hp0 : 0 ≤ parts) (hp1 : parts ≤ 1000000000) (hf0 : 1 ≤ f.pitch) (hd0 : 0 ≤ parts / f.pitch) (hd1 : parts / f.pitch ≤ 1000000000) (hm0 : 0 ≤ parts / f.pitch * f.draw) (hm1 : parts / f.pitch * f.draw ≤ 1000000000000)
    (w : World) (hf : FRow w fa fs) (hg : IRow w ga mf) :
    Calls Try.prog 76 #[.agg #[.slice ma mp.length mc, .slice ga mf.length gc, .slice pa ps.length pc, .slice fa fs.length fc, .int .i64 parts, .map m], .int .i64 k] w fun e w' =>
      e = .returned (.int .i64 (parts / f.pitch * f.draw)) ∧ Gr w w' := by
  have gg := Gr.al w (.cells #[.slice ma mp.length mc, .slice ga mf.length gc, .slice pa ps.length pc, .slice fa fs.length fc, .int .i64 parts, .map m] 109)
  have hb := Box.new w [.slice ma mp.length mc, .slice ga mf.length gc, .slice pa ps.length pc, .slice fa fs.length fc, .int .i64 parts, .map m] 109 w.heap.size rfl
  have Hi := Lib.hid hi
  have Hn := Lib.hid hn
  have hf1 := hf.grow gg
  have hg1 := hg.grow gg
  clear hi hn
  go_enter Try.func76, Try.ntmps76
  go_wp2_with (first | (go_at_call 74; refine (kindAt_any k (by omega) _).mono ?_; rintro e w' ⟨rfl, rfl⟩) | (go_at_call 75; refine (flute_any _ _ _ _ _ _ _ _ _ _ _ _ _ _ _ i (by omega) n f Hi.out Hn.out _ hf1 hg1).mono ?_; rintro e w1 ⟨rfl, hx⟩))
  have gx := gg.tr (hx.tr (Gr.al _ (.cells #[.int .i64 f.pitch, .int .i64 f.draw, .int .i64 f.hlo, .int .i64 f.hhi] 103)))
  obtain ⟨t0, t1, t2, t3⟩ := (Box.new w1 [.int .i64 f.pitch, .int .i64 f.draw, .int .i64 f.hlo, .int .i64 f.hhi] 103 w1.heap.size rfl).c4
  obtain ⟨q0, q1, q2, q3, q4, q5⟩ := (hb.keep (hx.tr (Gr.al _ (.cells #[.int .i64 f.pitch, .int .i64 f.draw, .int .i64 f.hlo, .int .i64 f.hhi] 103)))).c6
  go_quiet (fail)
  go_wp2
  go_ret
  exact ⟨rfl, gx.drewN _⟩

end Go.Proofs.Ytmioakcbgcgdhaa
