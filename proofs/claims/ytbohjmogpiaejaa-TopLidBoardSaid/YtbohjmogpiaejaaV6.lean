/- Contracts of pubBoard. -/
import Derived.Test.YtbohjmogpiaejaaB13
import Derived.Test.YtbohjmogpiaejaaB14
import Derived.Test.YtbohjmogpiaejaaP1
import Derived.Test.YtbohjmogpiaejaaS1
import Derived.Deep.CutRange
import Derived.Deep.DeepCutAuto
namespace Go.Proofs.Ytbohjmogpiaejaa
set_option linter.unusedVariables false
set_option linter.unusedSimpArgs false
open Go.RowKit

theorem RowOf.lit {α : Type} {enc : α → List Value} {sz : Nat} (he : ∀ x, (enc x).length = sz) (w : World) (t : TypeId) (l : List α) (hl : l.length ≤ 9223372036854775807) (cs : Array Value) (hcs : cs = (l.flatMap enc).toArray) (n : Nat) (hn : n = w.heap.size) : RowOf sz enc (w.alloc (.cells cs t)) (some ⟨n, 0, none⟩) l := by
  subst hn hcs
  refine ⟨hl, fun j x hx => ⟨w.heap.size, 0, rfl, by simp, fun i v hv => ?_⟩⟩
  have hf := flat_get he l j i x v hx hv
  refine new_cell w _ t ?_
  simpa using hf

def ps0 : List Paper := [⟨1, 200, 250, 270, 60, 80, 400000, 300⟩, ⟨2, 120, 180, 190, 70, 90, 300000, 200⟩]
def fs0 : List Flute := [⟨8000, 12000, 3600, 3700⟩]
def mp0 : List Int := [0, 1, 0]
def mf0 : List Int := [0]
theorem made0 : madeL ps0 fs0 mp0 mf0 = 0 := by decide +kernel
theorem wn0 : weighN ps0 fs0 mp0 mf0 = 580 := by decide +kernel
theorem wd0 : weighD ps0 fs0 mp0 mf0 = 1 := by decide +kernel
theorem tl0 : thickL false ps0 fs0 mp0 mf0 = 4100 := by decide +kernel
theorem th0 : thickL true ps0 fs0 mp0 mf0 = 4240 := by decide +kernel

theorem weigh0 (pa fa ma ga : Option Addr) (w : World) (hp : PRow w pa ps0) (hf : FRow w fa fs0) (ha : IRow w ma mp0) (hg : IRow w ga mf0) :
    Calls Try.prog 34 #[.agg #[.slice pa 2 2, .slice fa 1 1], .agg #[.slice ma 3 3, .slice ga 1 1]] w fun e w' => e = .returned (.tuple #[.agg #[.int .i64 580, .int .i64 1], .int .i64 0]) ∧ Gr w w' := by
  have h := weigh_ok ps0 fs0 mp0 mf0 pa fa ma ga 2 1 3 1 w hp hf ha hg made0
  rw [wn0, wd0] at h
  exact h
theorem measure0 (pa fa ma ga : Option Addr) (w : World) (hp : PRow w pa ps0) (hf : FRow w fa fs0) (ha : IRow w ma mp0) (hg : IRow w ga mf0) :
    Calls Try.prog 9 #[.agg #[.slice pa 2 2, .slice fa 1 1], .agg #[.slice ma 3 3, .slice ga 1 1]] w fun e w' => ∃ m0 m1, e = .returned (.tuple #[.agg #[.int .i64 m0, .int .i64 m1], .agg #[.int .i64 4100, .int .i64 4240], .int .i64 0]) ∧ Gr w w' := by
  have h := measureF_ok ps0 fs0 mp0 mf0 pa fa ma ga 2 1 3 1 w hp hf ha hg made0
  rw [tl0, th0] at h
  exact h.mono fun e w' hh => ⟨_, _, hh⟩

set_option maxRecDepth 100000 in
set_option maxHeartbeats 4000000 in
theorem pubBoard_any (w : World) : Calls Try.prog 16 #[] w fun e w' => e = .returned (.bool true) ∧ Gr w w' := by
  go_enter Try.func16, Try.ntmps16
  go_wp2_with fail
  refine (span_any _ _ _).mono ?_
  rintro e w1 ⟨rfl, h1⟩
  go_wp2_with fail
  refine (span_any _ _ _).mono ?_
  rintro e w2 ⟨rfl, h2⟩
  go_wp2_with fail
  refine (span_any _ _ _).mono ?_
  rintro e w3 ⟨rfl, h3⟩
  go_wp2_with fail
  refine (span_any _ _ _).mono ?_
  rintro e w4 ⟨rfl, h4⟩
  go_wp2_with fail
  refine (span_any _ _ _).mono ?_
  rintro e w5 ⟨rfl, h5⟩
  go_upto_region 3 with fail
  refine wp_abs (fun W => Gr w W ∧ PRow W (some ⟨w4.heap.size, 0, none⟩) ps0 ∧ FRow W (some ⟨w5.heap.size, 0, none⟩) fs0 ∧ IRow W (some ⟨w5.heap.size + 1 + 1, 0, none⟩) mp0 ∧ IRow W (some ⟨w5.heap.size + 1 + 1 + 1, 0, none⟩) mf0 ∧
    Box W (w5.heap.size + 1) [.slice (some ⟨w4.heap.size, 0, none⟩) 2 2, .slice (some ⟨w5.heap.size, 0, none⟩) 1 1] ∧ Box W (w5.heap.size + 1 + 1 + 1 + 1) [.slice (some ⟨w5.heap.size + 1 + 1, 0, none⟩) 3 3, .slice (some ⟨w5.heap.size + 1 + 1 + 1, 0, none⟩) 1 1])
    ⟨((((((h1.tr (h2.tr (h3.tr (h4.tr ((Gr.al _ _).tr h5))))).tr (Gr.al _ _)).tr (Gr.al _ _)).tr (Gr.al _ _)).tr (Gr.al _ _)).tr (Gr.al _ _)),
     ((RowOf.lit (enc := encP) (sz := 8) (fun _ => rfl) w4 68 ps0 (by simp [ps0]) _ (by rfl) w4.heap.size rfl).grow h5).grow (((((Gr.al _ _).tr (Gr.al _ _)).tr (Gr.al _ _)).tr (Gr.al _ _)).tr (Gr.al _ _)),
     (RowOf.lit (enc := encF) (sz := 4) (fun _ => rfl) w5 70 fs0 (by simp [fs0]) _ (by rfl) w5.heap.size rfl).grow ((((Gr.al _ _).tr (Gr.al _ _)).tr (Gr.al _ _)).tr (Gr.al _ _)),
     (RowOf.lit (enc := encI) (sz := 1) (fun _ => rfl) _ 3 mp0 (by simp [mp0]) _ (by rfl) (w5.heap.size + 1 + 1) (by simp)).grow ((Gr.al _ _).tr (Gr.al _ _)),
     (RowOf.lit (enc := encI) (sz := 1) (fun _ => rfl) _ 3 mf0 (by simp [mf0]) _ (by rfl) (w5.heap.size + 1 + 1 + 1) (by simp)).grow (Gr.al _ _),
     (Box.new _ [.slice (some ⟨w4.heap.size, 0, none⟩) 2 2, .slice (some ⟨w5.heap.size, 0, none⟩) 1 1] 33 (w5.heap.size + 1) (by simp)).keep (((Gr.al _ _).tr (Gr.al _ _)).tr (Gr.al _ _)),
     Box.new _ [.slice (some ⟨w5.heap.size + 1 + 1, 0, none⟩) 3 3, .slice (some ⟨w5.heap.size + 1 + 1 + 1, 0, none⟩) 1 1] 37 (w5.heap.size + 1 + 1 + 1 + 1) (by simp)⟩ ?_
  rintro W ⟨gW, hp, hf, ha, hg, b1, b2⟩
  clear h1 h2 h3 h4 h5
  obtain ⟨x0, x1⟩ := b1.c2
  obtain ⟨x2, x3⟩ := b2.c2
  go_wp2_with fail
  refine (weigh0 _ _ _ _ W hp hf ha hg).mono ?_
  rintro e w6 ⟨rfl, h6⟩
  clear x0 x1 x2 x3
  go_upto_region 4 with fail
  refine wp_abs (fun V => Gr W V ∧ Box V w6.heap.size [.int .i64 580, .int .i64 1]) ⟨h6.tr (Gr.al _ _), Box.new _ [.int .i64 580, .int .i64 1] 90 w6.heap.size rfl⟩ ?_
  rintro V ⟨gV, b3⟩
  clear h6
  obtain ⟨x0, x1⟩ := (b1.keep gV).c2
  obtain ⟨x2, x3⟩ := (b2.keep gV).c2
  go_wp2_with fail
  refine (measure0 _ _ _ _ V (hp.grow gV) (hf.grow gV) (ha.grow gV) (hg.grow gV)).mono ?_
  rintro e w7 ⟨m0, m1, rfl, h7⟩
  clear x0 x1 x2 x3
  go_upto_region 5 with fail
  refine wp_abs (fun U => Gr W U ∧ Box U w6.heap.size [.int .i64 580, .int .i64 1] ∧ Box U (w7.heap.size + 1) [.int .i64 4100, .int .i64 4240])
    ⟨((gV.tr h7).tr (Gr.al _ _)).tr (Gr.al _ _), b3.keep ((h7.tr (Gr.al _ _)).tr (Gr.al _ _)), Box.new _ [.int .i64 4100, .int .i64 4240] 43 (w7.heap.size + 1) (by simp)⟩ ?_
  rintro U ⟨gU, b4, b5⟩
  clear b1 b2 b3 hp hf ha hg h7 gV
  have gX := Gr.dr U
  obtain ⟨x0, x1⟩ := (b4.keep gX).c2
  obtain ⟨x2, x3⟩ := (b5.keep gX).c2
  go_region_held3 (fun w' => w'.cell? ⟨w6.heap.size, 0, none⟩ = some (.int .i64 580) ∧ w'.cell? ⟨w6.heap.size, 1, none⟩ = some (.int .i64 1) ∧ w'.cell? ⟨w7.heap.size + 1, 0, none⟩ = some (.int .i64 4100) ∧ w'.cell? ⟨w7.heap.size + 1, 1, none⟩ = some (.int .i64 4240)) (first | exact ⟨x0, x1, x2, x3⟩ | go_keep) (first
    | (go_at_call 22; (refine (span_any _ _ _).mono ?_); rintro e w8 ⟨rfl, hy⟩; replace gX := gX.tr hy; (obtain ⟨x0, x1⟩ := (b4.keep gX).c2); (obtain ⟨x2, x3⟩ := (b5.keep gX).c2)))
  all_goals
    go_wp2
    go_ret
    exact ⟨rfl, gW.tr (gU.tr gX)⟩

end Go.Proofs.Ytbohjmogpiaejaa
