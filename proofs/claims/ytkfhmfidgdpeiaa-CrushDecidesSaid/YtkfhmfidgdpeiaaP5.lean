/- Contract of pubStore. -/
import Derived.Test.YtkfhmfidgdpeiaaQp
import Derived.Test.YtkfhmfidgdpeiaaR4
import Derived.Deep.QuietTactic
import Derived.BigQuiet
import Derived.Deep.CutRange
import Derived.Deep.DeepCutAuto
namespace Go.Proofs.Ytkfhmfidgdpeiaa
set_option linter.unusedVariables false
set_option linter.unusedSimpArgs false
open Go.RowKit

def HeldP (b : Nat) (y0 y1 y2 y3 : Int) (c : Nat) (pv : Value) (w' : World) : Prop := w'.cell? ⟨b, 0, none⟩ = some (.int .u8 y0) ∧ w'.cell? ⟨b, 1, none⟩ = some (.int .u8 y1) ∧ w'.cell? ⟨b, 2, none⟩ = some (.int .u8 y2) ∧ w'.cell? ⟨b, 3, none⟩ = some (.int .u8 y3) ∧ w'.cell? ⟨c, 0, none⟩ = some pv

def HeldF (b : Nat) (y2 : Int) (c : Nat) (pv : Value) (w' : World) : Prop := w'.cell? ⟨b, 2, none⟩ = some (.int .u8 y2) ∧ w'.cell? ⟨c, 1, none⟩ = some pv

def fpaper (v0 v1 v2 v3 : Int) (k : Int) : Paper := ⟨1 + k % 2, 80 + v0, 100 + v1, 100 + v1 + v2 % 60, v3 % 90, v3 % 90 + v2 % 20, 2000 * v0, 5 * v1⟩

def fflute (v0 v1 v2 : Int) : Flute := ⟨2000 + 20 * v0, 2000 + 20 * v0 + (2000 + 20 * v0) * v2 / 400, 1000 + 8 * v1, 1000 + 8 * v1 + v2 % 200⟩

def storeP (x0 x1 x2 x3 x4 x5 x6 x7 x8 x9 x10 x11 : Int) : List Paper := [fpaper x0 x1 x2 x3 0, fpaper x4 x5 x6 x7 1, fpaper x8 x9 x10 x11 2]

def storeF (x12 x13 x14 x15 x16 x17 : Int) : List Flute := [fflute x12 x13 x14, fflute x15 x16 x17]

def Byt (n : Int) : Prop := 0 ≤ n ∧ n ≤ 255

theorem owns_other {w : World} {base : Nat} {e : TypeId} {sz : Nat} {v : Value} {n : Nat} {xs : List Value} {c i : Nat} {u : Value} (h : w.ownsRow base e sz v n xs) (hc : c < base) : (w.setCell ⟨c, i, none⟩ u).ownsRow base e sz v n xs := by
  obtain ⟨h1, h2⟩ := h
  refine ⟨h1, ?_⟩
  rcases h2 with h2 | ⟨b, cap, cur, hv, hb, hh, r⟩
  · exact .inl h2
  · exact .inr ⟨b, cap, cur, hv, hb, (Below.heap_setCell _ _ _ _ (show b ≠ c by omega)).trans hh, r⟩

theorem Box.c3 {w : World} {b : Nat} {x0 x1 x2 : Value} (h : Box w b [x0, x1, x2]) : w.cell? ⟨b, 0, none⟩ = some x0 ∧ w.cell? ⟨b, 1, none⟩ = some x1 ∧ w.cell? ⟨b, 2, none⟩ = some x2 := ⟨h.2 0 x0 rfl, h.2 1 x1 rfl, h.2 2 x2 rfl⟩

theorem Box.other {w : World} {b c i : Nat} {vs : List Value} {v : Value} (h : Box w c vs) (hne : c ≠ b) : Box (w.setCell ⟨b, i, none⟩ v) c vs :=
  ⟨by simpa using h.1, fun j u hu => by rw [cell_set_ne v (.inl hne)]; exact h.2 j u hu⟩

end Go.Proofs.Ytkfhmfidgdpeiaa
