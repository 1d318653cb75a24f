/- Contracts of valid, goodPaper, goodFlute, goodWish. Contracts of every over papers and flutes, and of Check. Contracts of kindAt, formed, numbered, Made. Contract of Made. Contracts of a sheet's flute and take. -/
import Derived.Test.YtkfhmfidgdpeiaaB1
import Derived.Deep.QuietTactic
import Derived.BigQuiet
import Derived.WalkSmall
import Derived.StillTailTactics
import Derived.Deep.RegionHeld3
namespace Go.Proofs.Ytkfhmfidgdpeiaa
set_option linter.unusedVariables false
set_option linter.unusedSimpArgs false
open Go.RowKit

def goodP (p : Paper) : Bool :=
  (p.kind == 1 || p.kind == 2) && inB 1 1000 [p.weight] && okSpan 1 1000 p.tlo p.thi && okSpan 0 200 p.mlo p.mhi && inB 0 1000000 [p.price] && inB 0 10000 [p.strong]

def goodF (f : Flute) : Bool := inB 1000 10000 [f.pitch] && inB f.pitch (2 * f.pitch) [f.draw] && okSpan 1 10000 f.hlo f.hhi

end Go.Proofs.Ytkfhmfidgdpeiaa

namespace Go.Proofs.Ytkfhmfidgdpeiaa
set_option linter.unusedVariables false
set_option linter.unusedSimpArgs false
open Go.RowKit

def SomeIdx131 (c : Bool) (w : World) (e : Ending) (w' : World) : Prop := ∃ r : Int, e = .returned (.int .i64 r) ∧ decide (0 ≤ r) = c ∧ Gr w w'

def SomeIdx132 (c : Bool) (w : World) (e : Ending) (w' : World) : Prop := ∃ r : Int, e = .returned (.int .i64 r) ∧ decide (0 ≤ r) = c ∧ Gr w w'

/-- The error of a store. -/
def checkL (ps : List Paper) (fs : List Flute) : Int :=
  if 8 < ps.length ∨ 4 < fs.length then 5 else if ps.length = 0 ∨ fs.length = 0 then 2 else if ps.all goodP && fs.all goodF then 0 else 2

def vStore (pa fa : Option Addr) (pn pc fn fc : Nat) : Value := .agg #[.slice pa pn pc, .slice fa fn fc]

end Go.Proofs.Ytkfhmfidgdpeiaa

namespace Go.Proofs.Ytkfhmfidgdpeiaa
set_option linter.unusedVariables false
set_option linter.unusedSimpArgs false
open Go.RowKit

def kindL (n : Int) : Int := if n % 2 = 0 then 1 else 2

def formedL (mp mf : List Int) : Bool := inB 1 2 [(mf.length : Int)] && ((mp.length : Int) == 2 * (mf.length : Int) + 1)

def numberedL (mp mf : List Int) (np nf : Int) : Bool := inB 0 (np - 1) mp && inB 0 (nf - 1) mf

end Go.Proofs.Ytkfhmfidgdpeiaa

namespace Go.Proofs.Ytkfhmfidgdpeiaa
set_option linter.unusedVariables false
set_option linter.unusedSimpArgs false
open Go.RowKit

theorem Gr.drewN {w w' : World} (h : Gr w w') (n : Nat) : Gr w (w'.drewN n) := below_drewN h n

/-- The paper at place k is of the kind of its place. -/
def kindOk (ps : List Paper) (mp : List Int) (k : Nat) : Bool :=
  match mp[k]? with
  | none => true
  | some x => match ps[x.toNat]? with
    | none => false
    | some p => p.kind == kindL k

def kindsOk (ps : List Paper) (mp : List Int) : Bool := (List.range mp.length).all (kindOk ps mp)

/-- The error of a board. -/
def madeL (ps : List Paper) (fs : List Flute) (mp mf : List Int) : Int :=
  if checkL ps fs ≠ 0 then checkL ps fs else if formedL mp mf = false then 4 else if numberedL mp mf ps.length fs.length = false then 7 else if kindsOk ps mp = false then 2 else 0

theorem in_of_all {lo hi : Int} {l : List Int} (h : inB lo hi l = true) {k : Nat} {x : Int} (hx : l[k]? = some x) : lo ≤ x ∧ x ≤ hi := by
  have := List.all_eq_true.1 h x (List.mem_of_getElem? hx)
  simpa [in1] using this

theorem kindsOk_false {ps : List Paper} {mp : List Int} {k : Nat} (hk : k < mp.length) (h : kindOk ps mp k = false) : kindsOk ps mp = false := by
  unfold kindsOk
  rw [List.all_eq_false]
  exact ⟨k, by simpa using hk, by simp [h]⟩

theorem kindsOk_true {ps : List Paper} {mp : List Int} (h : ∀ j, j < mp.length → kindOk ps mp j = true) : kindsOk ps mp = true := by
  unfold kindsOk
  rw [List.all_eq_true]
  intro j hj
  exact h j (by simpa using hj)

end Go.Proofs.Ytkfhmfidgdpeiaa

namespace Go.Proofs.Ytkfhmfidgdpeiaa
set_option linter.unusedVariables false
set_option linter.unusedSimpArgs false
open Go.RowKit

/-- The flute of a store by its number. -/
def fluteN (fs : List Flute) (n : Int) : Flute := fs.getD n.toNat ⟨1, 1, 1, 1⟩

end Go.Proofs.Ytkfhmfidgdpeiaa
