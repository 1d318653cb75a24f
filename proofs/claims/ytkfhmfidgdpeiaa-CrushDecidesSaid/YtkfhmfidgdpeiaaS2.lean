/- Contracts of less, and of a sheet's panel, height, slot, flap. -/
import Derived.Test.YtkfhmfidgdpeiaaS1
import Derived.Test.YtkfhmfidgdpeiaaQa
import Derived.StillTailTactics
import Derived.Deep.RegionHeld3
namespace Go.Proofs.Ytkfhmfidgdpeiaa
set_option linter.unusedVariables false
set_option linter.unusedSimpArgs false
open Go.RowKit

def less1 (s x : Sp) : Sp := ⟨s.lo - x.hi, s.hi - x.lo⟩

def lessL (s : Sp) (l : List Sp) : Sp := l.foldl less1 s

def SpB (n : Int) (x : Sp) : Prop := -n ≤ x.lo ∧ x.lo ≤ n ∧ -n ≤ x.hi ∧ x.hi ≤ n

theorem less_take {s : Sp} {l : List Sp} {k : Nat} {x : Sp} (hx : l[k]? = some x) : lessL s (l.take (k + 1)) = less1 (lessL s (l.take k)) x := by
  unfold lessL
  rw [List.take_add_one, hx]
  simp

theorem less_bd {s : Sp} {l : List Sp} (hs : SpB 1000000000 s) (hl : ∀ x ∈ l, SpB 1000000000 x) : ∀ k : Nat, k ≤ l.length → SpB (1000000000 * (k + 1)) (lessL s (l.take k))
  | 0, _ => by simpa [lessL] using hs
  | k + 1, hk => by
    obtain ⟨x, hx⟩ := get_of_lt (show k < l.length by omega)
    obtain ⟨a1, a2, a3, a4⟩ := hl x (List.mem_of_getElem? hx)
    obtain ⟨b1, b2, b3, b4⟩ := less_bd hs hl k (by omega)
    rw [less_take hx]
    unfold SpB less1
    simp only
    refine ⟨by omega, by omega, by omega, by omega⟩

/-- What a flap can truly be: at the top (end 0), at the bottom (end 1). -/
def flapL (opn : Bool) (off : Int) (en : Nat) (v : Int) : Sp := if en = 0 ∧ opn = true then ⟨0, 0⟩ else nearL off v 0 3000

end Go.Proofs.Ytkfhmfidgdpeiaa
