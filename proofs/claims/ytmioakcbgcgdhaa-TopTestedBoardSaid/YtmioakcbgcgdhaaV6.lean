/- Contracts of pubBoard. -/
import Derived.Test.YtmioakcbgcgdhaaQt
import Derived.Test.YtmioakcbgcgdhaaB14
import Derived.Test.YtmioakcbgcgdhaaP1
import Derived.Test.YtmioakcbgcgdhaaS1
import Derived.Deep.CutRange
import Derived.Deep.DeepCutAuto
namespace Go.Proofs.Ytmioakcbgcgdhaa
set_option linter.unusedVariables false
set_option linter.unusedSimpArgs false
open Go.RowKit

theorem RowOf.lit {α : Type} {enc : α → List Value} {sz : Nat} (he : ∀ x, (enc x).length = sz) (w : World) (t : TypeId) (l : List α) (hl : l.length ≤ 9223372036854775807) (cs : Array Value) (hcs : cs = (l.flatMap enc).toArray) (n : Nat) (hn : n = w.heap.size) : RowOf sz enc (w.alloc (.cells cs t)) (some ⟨n, 0, none⟩) l := by
  subst hn hcs
  refine ⟨hl, fun j x hx => ⟨w.heap.size, 0, rfl, by simp, fun i v hv => ?_⟩⟩
  have hf := flat_get he l j i x v hx hv
  refine new_cell w _ t ?_
  simpa using hf

def ps0 : List Paper := [⟨1, 200, 250, 270, 60, 80, 400000, 300⟩, ⟨2, 120, 180, 190, 70, 90, 300000, 200⟩]

def fs0 : List Flute := [⟨8000, 12000, 3600, 3700⟩]

def mp0 : List Int := [0, 1, 0]

def mf0 : List Int := [0]

theorem made0 : madeL ps0 fs0 mp0 mf0 = 0 := by decide +kernel

theorem wn0 : weighN ps0 fs0 mp0 mf0 = 580 := by decide +kernel

theorem wd0 : weighD ps0 fs0 mp0 mf0 = 1 := by decide +kernel

theorem tl0 : thickL false ps0 fs0 mp0 mf0 = 4100 := by decide +kernel

theorem th0 : thickL true ps0 fs0 mp0 mf0 = 4240 := by decide +kernel

theorem measure0 (pa fa ma ga : Option Addr) (w : World) (hp : PRow w pa ps0) (hf : FRow w fa fs0) (ha : IRow w ma mp0) (hg : IRow w ga mf0) :
    Calls Try.prog 10 #[.agg #[.slice pa 2 2, .slice fa 1 1], .agg #[.slice ma 3 3, .slice ga 1 1]] w fun e w' => ∃ m0 m1, e = .returned (.tuple #[.agg #[.int .i64 m0, .int .i64 m1], .agg #[.int .i64 4100, .int .i64 4240], .int .i64 0]) ∧ Gr w w' := by
  have h := measureF_ok ps0 fs0 mp0 mf0 pa fa ma ga 2 1 3 1 w hp hf ha hg made0
  rw [tl0, th0] at h
  exact h.mono fun e w' hh => ⟨_, _, hh⟩

end Go.Proofs.Ytmioakcbgcgdhaa
