/- A region of calls, loads and allocations that draws its order: each operation hands over a value of which something is said that stays. One short proof for each operation. -/
import Derived.Test.YtkfhmfidgdpeiaaR6
namespace Go.Proofs.Ytkfhmfidgdpeiaa
set_option linter.unusedVariables false
set_option linter.unusedSimpArgs false
open Go.RowKit

/-- What is said of a value stays while the world grows. -/
def Stays (F : World → Value → Prop) : Prop := ∀ v v' x, Gr v v' → F v x → F v' x

theorem Stays.eq (u : Value) : Stays (fun _ x => x = u) := fun _ _ _ _ h => h

theorem Stays.tr : Stays (fun _ _ => True) := fun _ _ _ _ _ => trivial

/-- x, but u at i. -/
def upd (x : Nat → Value) (i : Nat) (u : Value) (j : Nat) : Value := bif j == i then u else x j

theorem upd_at (x : Nat → Value) (i : Nat) (u : Value) : upd x i u i = u := by simp [upd]

theorem upd_ne (x : Nat → Value) {i j : Nat} (u : Value) (h : j ≠ i) : upd x i u j = x j := by
  have e : (j == i) = false := by simpa using h
  simp [upd, e]

theorem upd_of {x : Nat → Value} {i : Nat} {u : Value} (h : x i = u) : ∃ y, x = upd y i u := ⟨x, by
  funext j
  by_cases e : j = i
  · subst e
    rw [upd_at, h]
  · rw [upd_ne x u e]⟩

theorem wp_region_facts {P : Program} {Q : Exit → Act → World → Prop} {id : Nat} {W : World} {l : List Oper} (n : Nat) (ds : List (Nat × Nat)) (fr : (Nat → Value) → Act) (x0 : Nat → Value) (Fs : List (World → Value → Prop)) {a : Act} (ha : a = fr x0) (hm : P.follows .mixedOrders = true)
    (hB : (decide (n < l.toArray.size) && Region.sinkB .any l.toArray n && Region.chainB .any l.toArray n && minB .any l.toArray n && Region.seqB .any l.toArray (l.toArray.size - n) n (Array.replicate n true ++ Array.replicate (l.toArray.size - n) false)) = true)
    (hD : depB .any l.toArray ds = true)
    (hst : ∀ (i : Nat) (F : World → Value → Prop), Fs[i]? = some F → Stays F)
    (hstep : ∀ i, i < n → ∀ x v, Gr W v → (∀ (j : Nat) (F : World → Value → Prop), (i, j) ∈ ds → Fs[j]? = some F → F v (x j)) → ∀ K : Act → World → Prop, (∀ u v', Gr v v' → (∀ F : World → Value → Prop, Fs[i]? = some F → F v' u) → K (fr (upd x i u)) v') → wpOp P l.toArray Q i K (fr x) v)
    (hend : ∀ x v, Gr W v → (∀ (j : Nat) (F : World → Value → Prop), j < n → Fs[j]? = some F → F v (x j)) → wpList P l.toArray Q (l.drop n) (fr x) v) : (Code.region id l.toArray true).wp P Q a W := by
  subst ha
  refine wp_region_inv' n ds (fun _ listed a v => ∃ x, a = fr x ∧ Gr W v ∧ ∀ (j : Nat) (F : World → Value → Prop), Fs[j]? = some F → listed.getD j false = true → F v (x j)) hm hB hD ⟨x0, rfl, Gr.dr W, fun j F _ h => by rw [getD_replicate_false] at h; cases h⟩ ?_ ?_
  · rintro i hi listed a v hun hdep ⟨x, rfl, gv, hf⟩
    refine hstep i hi x v gv (fun j F hj hF => hf j F hF (hdep j hj)) _ (fun u v' hg hu => ⟨upd x i u, rfl, gv.tr hg, fun j F hF hl => ?_⟩)
    by_cases e : j = i
    · subst e
      rw [upd_at]
      exact hu F hF
    · rw [upd_ne x u e]
      exact hst j F hF v v' _ hg (hf j F hF (by rwa [getD_set_ne false (fun e' => e e'.symm)] at hl))
  · rintro listed a v hs hall ⟨x, rfl, gv, hf⟩
    refine hend x v gv (fun j F hj hF => hf j F hF ?_)
    have h1 := hall j hj
    have hl : j < listed.size := by omega
    simp [hl] at h1 ⊢
    exact h1

/-- What is said of each, one after another. -/
theorem stays_nil : ∀ (i : Nat) (F : World → Value → Prop), ([] : List (World → Value → Prop))[i]? = some F → Stays F := fun i F h => by simp at h

theorem stays_cons {G : World → Value → Prop} {Fs : List (World → Value → Prop)} (h : Stays G) (hs : ∀ (i : Nat) (F : World → Value → Prop), Fs[i]? = some F → Stays F) : ∀ (i : Nat) (F : World → Value → Prop), (G :: Fs)[i]? = some F → Stays F
  | 0, F, e => by simp at e; subst e; exact h
  | i + 1, F, e => hs i F (by simpa using e)

theorem at_of {Fs : List (World → Value → Prop)} {i : Nat} {G : World → Value → Prop} {v : World} {u : Value} (h : Fs[i]? = some G) (hG : G v u) : ∀ F : World → Value → Prop, Fs[i]? = some F → F v u := by
  intro F e
  rw [h] at e
  cases e
  exact hG

end Go.Proofs.Ytkfhmfidgdpeiaa
