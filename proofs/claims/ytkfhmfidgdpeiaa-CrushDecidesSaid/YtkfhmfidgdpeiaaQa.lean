/- What a store into one block leaves as it was, and what it turns. A region that draws its order, whose operations read and whose callees make memory of their own and turn none that was there: one walk serves every order. -/
import Derived.Test.YtkfhmfidgdpeiaaB1
import Derived.BigQuiet
namespace Go.Proofs.Ytkfhmfidgdpeiaa
set_option linter.unusedVariables false
set_option linter.unusedSimpArgs false
open Go.RowKit

theorem Gr.dr (w : World) : Gr w w.drew := (Below.refl _ w).drew

theorem cell_set {w : World} {b i : Nat} {u : Value} (v : Value) (h : w.cell? ⟨b, i, none⟩ = some u) : (w.setCell ⟨b, i, none⟩ v).cell? ⟨b, i, none⟩ = some v :=
  World.cell?_setCell_same' _ _ _ (by rw [h]; rfl)

theorem cell_set_ne {w : World} {b c i j : Nat} (v : Value) (h : c ≠ b ∨ j ≠ i) : (w.setCell ⟨b, i, none⟩ v).cell? ⟨c, j, none⟩ = w.cell? ⟨c, j, none⟩ :=
  World.cell?_setCell_other _ _ _ _ (by rintro e; injection e with e1 e2; rcases h with h | h <;> exact h (by first | exact e1 | exact e1.symm | exact e2 | exact e2.symm))

theorem Own.other {w : World} {b c i : Nat} {vs : List Value} {v : Value} (h : Own w c vs) (hne : c ≠ b) : Own (w.setCell ⟨b, i, none⟩ v) c vs :=
  ⟨⟨by simpa using h.1.1, fun j u hu => by rw [cell_set_ne v (.inl hne)]; exact h.1.2 j u hu⟩, fun j => by rw [World.frozen?_setCell]; exact h.2 j⟩

theorem Own.set {w : World} {b i : Nat} {vs : List Value} {v : Value} (h : Own w b vs) (hi : i < vs.length) : Own (w.setCell ⟨b, i, none⟩ v) b (vs.set i v) := by
  refine ⟨⟨by simpa using h.1.1, fun j u hu => ?_⟩, fun j => by rw [World.frozen?_setCell]; exact h.2 j⟩
  by_cases hj : j = i
  · subst hj
    rw [List.getElem?_set_self hi] at hu
    cases hu
    obtain ⟨x, hx⟩ := get_of_lt hi
    exact cell_set v (h.1.2 j x hx)
  · rw [cell_set_ne v (.inr hj)]
    rw [List.getElem?_set_ne (by omega)] at hu
    exact h.1.2 j u hu

/-- A map's store turns no other block. -/
theorem Own.grown {w w' : World} {b m : Nat} {vs : List Value} (h : Own w b vs) (g : w.grownBy w' (some m)) (hne : b ≠ m) : Own w' b vs := by
  have hb := g.block b h.1.1 (fun e => hne (by injection e))
  exact ⟨⟨Nat.lt_of_lt_of_le h.1.1 g.size, fun i v hv => (World.cell?_of_block (w := w) (a := ⟨b, i, none⟩) hb).trans (h.1.2 i v hv)⟩, fun i => (World.frozen?_of_block (w := w) (a := ⟨b, i, none⟩) hb).trans (h.2 i)⟩

end Go.Proofs.Ytkfhmfidgdpeiaa

namespace Go.Proofs.Ytkfhmfidgdpeiaa
set_option linter.unusedVariables false
set_option linter.unusedSimpArgs false
open Go.RowKit

/-- The worlds that keep all that lies in W. -/
structure From (W : World) where
  val : World
  property : Gr W val

instance From.nonempty (W : World) : Nonempty (From W) := ⟨⟨W, Below.refl _ _⟩⟩

theorem wp_region_gr {P : Program} {id : Nat} {Q : Exit → Act → World → Prop} {a : Act} {W : World} {l : List Oper} (hm : P.follows .mixedOrders = true) (hB : Region.lexB .any l.toArray = true)
    (h : wpQuiet P l.toArray (fun w' => ∃ u : From W, w' = u.val) (fun a' => ∀ w', (∃ u : From W, w' = u.val) → Q .normal a' w') l a) : (Code.region id l.toArray true).wp P Q a W :=
  wp_region_quiet (C := fun w' => ∃ u : From W, w' = u.val) hm hB ⟨⟨W.drew, Gr.dr W⟩, rfl⟩ (by simpa using h)

/-- A callee's contract, met in whatever such world. -/
theorem Calls.gr {P : Program} {f : FuncId} {args : Array Value} {W : World} {u : From W} {v : Value} (h : Calls P f args u.val fun e w' => e = .returned v ∧ Gr u.val w') :
    Calls P f args u.val fun e w'' => e = .returned v ∧ ∃ u' : From W, w'' = u'.val :=
  h.mono fun _ w' ⟨he, hg⟩ => ⟨he, ⟨w', u.property.tr hg⟩, rfl⟩

theorem From.keep {W : World} {b o : Nat} {v : Value} (h : W.cell? ⟨b, o, none⟩ = some v) (u : From W) : u.val.cell? ⟨b, o, none⟩ = some v := u.property.keep h

end Go.Proofs.Ytkfhmfidgdpeiaa
