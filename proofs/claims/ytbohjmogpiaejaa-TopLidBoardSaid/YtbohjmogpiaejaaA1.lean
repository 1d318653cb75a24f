/- A map from int to int that a call makes: what it holds, number by number. -/
import Derived.Test.YtbohjmogpiaejaaB6
import Derived.Maps.OwnOps
import Derived.Maps.Views
namespace Go.Proofs.Ytbohjmogpiaejaa
set_option linter.unusedVariables false
set_option linter.unusedSimpArgs false
open Go.RowKit

theorem key3 : Maps.Keyed Try.prog 3 := Maps.int_keyed Try.underlying3
theorem zero3 (w : World) : (zeroValue 3).run Try.prog w = .ok (.int .i64 0) w := by kernel_rfl

/-- Block b is a map of at most n entries in which each number x leads to f x (0 where x is not in it). -/
def MapIs (w : World) (b n : Nat) (f : Int → Int) : Prop :=
  ∃ D : DataW Unit, Maps.IsMap D ∧ w.ownsMap Try.prog 3 (plainElem Try.prog 3) b n D ∧ ∀ x : Int, D.atKey (.int .i64 x) (.lit (.int .i64 0)) = .lit (.int .i64 (f x))

theorem MapIs.lt {w : World} {b n : Nat} {f : Int → Int} (h : MapIs w b n f) : b < w.heap.size := by
  obtain ⟨D, _, h, _⟩ := h
  exact h.lt

theorem MapIs.keep {w w' : World} {b n : Nat} {f : Int → Int} (h : MapIs w b n f) (g : Gr w w') : MapIs w' b n f := by
  have hlt := h.lt
  obtain ⟨D, hD, ⟨es, clock, hb, F, hs, hd⟩, ha⟩ := h
  exact ⟨D, hD, ⟨es, clock, (g.block b hlt).trans hb, F, hs, hd⟩, ha⟩

theorem MapIs.made (w : World) : MapIs (w.alloc (.map #[] 0)) w.heap.size 0 (fun _ => 0) :=
  ⟨.map [], ⟨[], rfl⟩, World.ownsMap_made _ _ _ _, fun _ => rfl⟩

theorem MapIs.look {w : World} {b n : Nat} {f : Int → Int} (h : MapIs w b n f) (x : Int) (hx : (Lit.int .i64 x).wf = true) :
    (Instr.lookup 73 (.map (some b)) (.int .i64 x) false).run Try.prog w = .ok (.int .i64 (f x)) w := by
  obtain ⟨D, _, ho, ha⟩ := h
  obtain ⟨c, hrun, hat, _⟩ := ho.lookup_int key3 Try.underlying73 Try.underlying3 (zero3 w) (Maps.keyOf_int_mk Try.underlying3 hx)
  rw [ha x] at hat
  have e : f x = c := by
    simp only [DataW.lit.injEq, Lit.int.injEq, true_and] at hat
    exact hat
  rw [hrun, e]

theorem MapIs.put {w : World} {b n : Nat} {f : Int → Int} (h : MapIs w b n f) (hn : n < 1000) (x v : Int) (hx : (Lit.int .i64 x).wf = true) (hv : (Lit.int .i64 v).wf = true) :
    ∃ w', (Instr.mapUpdate 73 (.map (some b)) (.int .i64 x) (.int .i64 v)).run Try.prog w = .ok () w' ∧ MapIs w' b (n + 1) (fun y => if y = x then v else f y) ∧ w.grownBy w' (some b) := by
  obtain ⟨D, hD, ho, ha⟩ := h
  obtain ⟨w', hrun, ho', hg⟩ := ho.update (val := .int .i64 v) (d := .lit (.int .i64 v)) (ps := []) key3 Try.underlying73 (by unfold maxLen; omega) (Maps.keyOf_int_mk Try.underlying3 hx) (plainElem_int Try.underlying3 hv)
  refine ⟨w', hrun, ⟨_, hD.put _ _, ho', fun y => ?_⟩, hg⟩
  by_cases h : y = x
  · subst h
    rw [Maps.atKey_put_same hD (by trivial)]
    show _ = DataW.lit (.int .i64 (if y = y then v else f y))
    rw [if_pos rfl]
  · rw [Maps.atKey_put_other (by intro e; injection e with _ e; exact h e), ha y]
    show _ = DataW.lit (.int .i64 (if y = x then v else f y))
    rw [if_neg h]

theorem wf64 {n : Int} (h1 : -9223372036854775808 ≤ n) (h2 : n ≤ 9223372036854775807) : (Lit.int .i64 n).wf = true := WalkArith.wf_i64 ⟨h1, h2⟩

end Go.Proofs.Ytbohjmogpiaejaa
