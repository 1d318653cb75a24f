/- A region that draws its order, whose operations read and whose callees make memory of their own and turn none that was there: one walk serves every order. -/
import Derived.Test.YtbohjmogpiaejaaA2
import Derived.BigQuiet
namespace Go.Proofs.Ytbohjmogpiaejaa
set_option linter.unusedVariables false
set_option linter.unusedSimpArgs false
open Go.RowKit

/-- The worlds that keep all that lies in W. -/
structure From (W : World) where
  val : World
  property : Gr W val

instance From.nonempty (W : World) : Nonempty (From W) := ⟨⟨W, Below.refl _ _⟩⟩

theorem wp_region_gr {P : Program} {id : Nat} {Q : Exit → Act → World → Prop} {a : Act} {W : World} {l : List Oper} (hm : P.follows .mixedOrders = true) (hB : Region.lexB .any l.toArray = true)
    (h : wpQuiet P l.toArray (fun w' => ∃ u : From W, w' = u.val) (fun a' => ∀ w', (∃ u : From W, w' = u.val) → Q .normal a' w') l a) : (Code.region id l.toArray true).wp P Q a W :=
  wp_region_quiet (C := fun w' => ∃ u : From W, w' = u.val) hm hB ⟨⟨W.drew, Gr.dr W⟩, rfl⟩ (by simpa using h)

/-- A callee's contract, met in whatever such world. -/
theorem Calls.gr {P : Program} {f : FuncId} {args : Array Value} {W : World} {u : From W} {v : Value} (h : Calls P f args u.val fun e w' => e = .returned v ∧ Gr u.val w') :
    Calls P f args u.val fun e w'' => e = .returned v ∧ ∃ u' : From W, w'' = u'.val :=
  h.mono fun _ w' ⟨he, hg⟩ => ⟨he, ⟨w', u.property.tr hg⟩, rfl⟩

theorem From.keep {W : World} {b o : Nat} {v : Value} (h : W.cell? ⟨b, o, none⟩ = some v) (u : From W) : u.val.cell? ⟨b, o, none⟩ = some v := u.property.keep h

end Go.Proofs.Ytbohjmogpiaejaa
