/- What a store into one block leaves as it was, and what it turns. -/
import Derived.Test.YtbohjmogpiaejaaA1
import Derived.Test.YtbohjmogpiaejaaM1
namespace Go.Proofs.Ytbohjmogpiaejaa
set_option linter.unusedVariables false
set_option linter.unusedSimpArgs false
open Go.RowKit

theorem Gr.dr (w : World) : Gr w w.drew := (Below.refl _ w).drew

theorem cell_set {w : World} {b i : Nat} {u : Value} (v : Value) (h : w.cell? ⟨b, i, none⟩ = some u) : (w.setCell ⟨b, i, none⟩ v).cell? ⟨b, i, none⟩ = some v :=
  World.cell?_setCell_same' _ _ _ (by rw [h]; rfl)

theorem cell_set_ne {w : World} {b c i j : Nat} (v : Value) (h : c ≠ b ∨ j ≠ i) : (w.setCell ⟨b, i, none⟩ v).cell? ⟨c, j, none⟩ = w.cell? ⟨c, j, none⟩ :=
  World.cell?_setCell_other _ _ _ _ (by rintro e; injection e with e1 e2; rcases h with h | h <;> exact h (by first | exact e1 | exact e1.symm | exact e2 | exact e2.symm))

theorem Own.other {w : World} {b c i : Nat} {vs : List Value} {v : Value} (h : Own w c vs) (hne : c ≠ b) : Own (w.setCell ⟨b, i, none⟩ v) c vs :=
  ⟨⟨by simpa using h.1.1, fun j u hu => by rw [cell_set_ne v (.inl hne)]; exact h.1.2 j u hu⟩, fun j => by rw [World.frozen?_setCell]; exact h.2 j⟩

theorem Own.set {w : World} {b i : Nat} {vs : List Value} {v : Value} (h : Own w b vs) (hi : i < vs.length) : Own (w.setCell ⟨b, i, none⟩ v) b (vs.set i v) := by
  refine ⟨⟨by simpa using h.1.1, fun j u hu => ?_⟩, fun j => by rw [World.frozen?_setCell]; exact h.2 j⟩
  by_cases hj : j = i
  · subst hj
    rw [List.getElem?_set_self hi] at hu
    cases hu
    obtain ⟨x, hx⟩ := get_of_lt hi
    exact cell_set v (h.1.2 j x hx)
  · rw [cell_set_ne v (.inr hj)]
    rw [List.getElem?_set_ne (by omega)] at hu
    exact h.1.2 j u hu

theorem MapIs.other {w : World} {b n c i : Nat} {f : Int → Int} {v : Value} (h : MapIs w b n f) (hne : b ≠ c) : MapIs (w.setCell ⟨c, i, none⟩ v) b n f := by
  obtain ⟨D, hD, ⟨es, clock, hb, F, hs, hd⟩, ha⟩ := h
  exact ⟨D, hD, ⟨es, clock, (Below.heap_setCell _ _ _ _ hne).trans hb, F, hs, hd⟩, ha⟩

theorem MapIs.dr {w : World} {b n : Nat} {f : Int → Int} (h : MapIs w b n f) : MapIs w.drew b n f := h.keep (Gr.dr w)

/-- A map's store turns no other block. -/
theorem Own.grown {w w' : World} {b m : Nat} {vs : List Value} (h : Own w b vs) (g : w.grownBy w' (some m)) (hne : b ≠ m) : Own w' b vs := by
  have hb := g.block b h.1.1 (fun e => hne (by injection e))
  exact ⟨⟨Nat.lt_of_lt_of_le h.1.1 g.size, fun i v hv => (World.cell?_of_block (w := w) (a := ⟨b, i, none⟩) hb).trans (h.1.2 i v hv)⟩, fun i => (World.frozen?_of_block (w := w) (a := ⟨b, i, none⟩) hb).trans (h.2 i)⟩

theorem MapIs.congr {w : World} {b n n' : Nat} {f g : Int → Int} (h : MapIs w b n f) (hn : n ≤ n') (e : ∀ y, f y = g y) : MapIs w b n' g := by
  have : f = g := funext e
  subst this
  obtain ⟨D, hD, ho, ha⟩ := h
  exact ⟨D, hD, ho.mono hn, ha⟩

set_option maxRecDepth 100000 in
theorem take_any (ps : List Paper) (fs : List Flute) (mp mf : List Int) (F : Fine ps fs mp mf) (m : Option Nat) (pa fa ma ga : Option Addr) (pc fc mc gc : Nat) (j : Int) (k : Nat) (hj : j = (k : Int)) (hk : k < mp.length) (w : World) (hf : FRow w fa fs) (hg : IRow w ga mf) :
    Calls Try.prog 45 #[.agg #[.slice ma mp.length mc, .slice ga mf.length gc, .slice pa ps.length pc, .slice fa fs.length fc, .int .i64 (partsL fs mf), .map m], .int .i64 j] w fun e w' =>
      e = .returned (.int .i64 (takeL fs mf k)) ∧ Gr w w' := by
  subst hj
  have h5 := F.mpl
  have h6 := F.f2
  cases hk1 : (kindL (k : Int) == 1) with
  | true =>
    have e : takeL fs mf k = partsL fs mf := by unfold takeL; rw [hk1]; rfl
    rw [e]
    exact take_even mp mf ps fs _ m pa fa ma ga pc fc mc gc k (by omega) hk1 w
  | false =>
    obtain ⟨o1, o2⟩ := kindL_odd hk1
    obtain ⟨n, f, hi, hn, hgf⟩ := F.flu (k / 2) (by omega)
    have ef := fluteAt_eq hi hn
    obtain ⟨p1, p2⟩ := parts_bd F
    obtain ⟨g1, g2, g3, g4, _⟩ := goodF_iff hgf
    have e : takeL fs mf k = partsL fs mf / f.pitch * f.draw := by unfold takeL; rw [hk1, ef]; rfl
    rw [e]
    obtain ⟨a1, a2⟩ := quo_bd (show 0 ≤ partsL fs mf by omega) p2 (show 1 ≤ f.pitch by omega)
    obtain ⟨b1, b2⟩ := quo_mul (show 0 ≤ partsL fs mf by omega) p2 (show 1 ≤ f.pitch by omega) (show 0 ≤ f.draw by omega) g4
    exact take_odd mp mf ps fs _ m pa fa ma ga pc fc mc gc k (k / 2) n (by omega) o1 o2 hk1 f hi hn (by omega) (by omega) (by omega) a1 (by omega) b1 (by omega) w hf hg

theorem field123_0 (a b c d : Value) (w : World) : (Instr.field 70 (.agg #[a, b, c, d]) 0).run Try.prog w = .ok a w := by kernel_rfl
theorem field123_2 (a b c d : Value) (w : World) : (Instr.field 70 (.agg #[a, b, c, d]) 2).run Try.prog w = .ok (.agg #[c, d]) w := by kernel_rfl

end Go.Proofs.Ytbohjmogpiaejaa
