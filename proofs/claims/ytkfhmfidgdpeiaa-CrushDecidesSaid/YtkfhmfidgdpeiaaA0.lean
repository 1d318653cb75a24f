/- Base: what a world holds for lists of numbers and structs; how it grows. -/
import Derived.WalkKit
import Derived.Handy
namespace Go.Proofs.Ytkfhmfidgdpeiaa
set_option linter.unusedVariables false
set_option linter.unusedSimpArgs false
open Go.RowKit

/-- Whatever lay in w lies in w' as it lay. -/
abbrev Gr (w w' : World) : Prop := Below w.heap.size w w'

theorem Gr.tr {a b c : World} (h : Gr a b) (k : Gr b c) : Gr a c := Below.trans h (Below.mono k h.size)

theorem Gr.al (w : World) (o : Obj) : Gr w (w.alloc o) := (Below.refl _ w).alloc (Nat.le_refl _) o

theorem Gr.cell {w w' : World} (h : Gr w w') {b o : Nat} {v : Value} (hb : b < w.heap.size) (hc : w.cell? ⟨b, o, none⟩ = some v) : w'.cell? ⟨b, o, none⟩ = some v :=
  (Below.cell h (p := ⟨b, o, none⟩) hb).trans hc

theorem lt_of_cell {w : World} {b o : Nat} {v : Value} (hc : w.cell? ⟨b, o, none⟩ = some v) : b < w.heap.size := World.block_lt_of_cell? w ⟨b, o, none⟩ hc

theorem Gr.keep {w w' : World} (h : Gr w w') {b o : Nat} {v : Value} (hc : w.cell? ⟨b, o, none⟩ = some v) : w'.cell? ⟨b, o, none⟩ = some v :=
  h.cell (lt_of_cell hc) hc

/-- A row of elements of sz cells each, at a. -/
def RowOf {α : Type} (sz : Nat) (enc : α → List Value) (w : World) (a : Option Addr) (l : List α) : Prop :=
  l.length ≤ 9223372036854775807 ∧ ∀ j x, l[j]? = some x → ∃ b off, a = some ⟨b, off, none⟩ ∧ b < w.heap.size ∧ ∀ i v, (enc x)[i]? = some v → w.cell? ⟨b, off + j * sz + i, none⟩ = some v

theorem RowOf.grow {α : Type} {sz : Nat} {enc : α → List Value} {w w' : World} {a : Option Addr} {l : List α} (h : RowOf sz enc w a l) (g : Gr w w') : RowOf sz enc w' a l := by
  refine ⟨h.1, fun j x hx => ?_⟩
  obtain ⟨b, off, ha, hb, hc⟩ := h.2 j x hx
  exact ⟨b, off, ha, Nat.lt_of_lt_of_le hb g.size, fun i v hv => g.cell hb (hc i v hv)⟩

theorem RowOf.nil {α : Type} {sz : Nat} {enc : α → List Value} {w : World} {a : Option Addr} : RowOf sz enc w a ([] : List α) :=
  ⟨by simp, fun j x hx => by simp at hx⟩

structure Paper where
  kind : Int
  weight : Int
  tlo : Int
  thi : Int
  mlo : Int
  mhi : Int
  price : Int
  strong : Int

structure Flute where
  pitch : Int
  draw : Int
  hlo : Int
  hhi : Int

def num (n : Int) : Value := .int .i64 n

def encI (n : Int) : List Value := [.int .i64 n]

def encP (p : Paper) : List Value := [.int .i64 p.kind, .int .i64 p.weight, .int .i64 p.tlo, .int .i64 p.thi, .int .i64 p.mlo, .int .i64 p.mhi, .int .i64 p.price, .int .i64 p.strong]

def encF (f : Flute) : List Value := [.int .i64 f.pitch, .int .i64 f.draw, .int .i64 f.hlo, .int .i64 f.hhi]

abbrev IRow := RowOf 1 encI

abbrev PRow := RowOf 8 encP

abbrev FRow := RowOf 4 encF

theorem IRow.get {w : World} {a : Option Addr} {l : List Int} (h : IRow w a l) {j : Nat} {x : Int} (hx : l[j]? = some x) :
    ∃ b off, a = some ⟨b, off, none⟩ ∧ b < w.heap.size ∧ w.cell? ⟨b, off + j, none⟩ = some (.int .i64 x) := by
  obtain ⟨b, off, ha, hb, hc⟩ := h.2 j x hx
  have := hc 0 (.int .i64 x) rfl
  exact ⟨b, off, ha, hb, by simpa using this⟩

theorem PRow.get {w : World} {a : Option Addr} {l : List Paper} (h : PRow w a l) {j : Nat} {x : Paper} (hx : l[j]? = some x) :
    ∃ b off, a = some ⟨b, off, none⟩ ∧ b < w.heap.size ∧ w.cell? ⟨b, off + j * 8, none⟩ = some (.int .i64 x.kind) ∧ w.cell? ⟨b, off + j * 8 + 1, none⟩ = some (.int .i64 x.weight) ∧
      w.cell? ⟨b, off + j * 8 + 2, none⟩ = some (.int .i64 x.tlo) ∧ w.cell? ⟨b, off + j * 8 + 3, none⟩ = some (.int .i64 x.thi) ∧ w.cell? ⟨b, off + j * 8 + 4, none⟩ = some (.int .i64 x.mlo) ∧
      w.cell? ⟨b, off + j * 8 + 5, none⟩ = some (.int .i64 x.mhi) ∧ w.cell? ⟨b, off + j * 8 + 6, none⟩ = some (.int .i64 x.price) ∧ w.cell? ⟨b, off + j * 8 + 7, none⟩ = some (.int .i64 x.strong) := by
  obtain ⟨b, off, ha, hb, hc⟩ := h.2 j x hx
  exact ⟨b, off, ha, hb, hc 0 _ rfl, hc 1 _ rfl, hc 2 _ rfl, hc 3 _ rfl, hc 4 _ rfl, hc 5 _ rfl, hc 6 _ rfl, hc 7 _ rfl⟩

theorem FRow.get {w : World} {a : Option Addr} {l : List Flute} (h : FRow w a l) {j : Nat} {x : Flute} (hx : l[j]? = some x) :
    ∃ b off, a = some ⟨b, off, none⟩ ∧ b < w.heap.size ∧ w.cell? ⟨b, off + j * 4, none⟩ = some (.int .i64 x.pitch) ∧ w.cell? ⟨b, off + j * 4 + 1, none⟩ = some (.int .i64 x.draw) ∧
      w.cell? ⟨b, off + j * 4 + 2, none⟩ = some (.int .i64 x.hlo) ∧ w.cell? ⟨b, off + j * 4 + 3, none⟩ = some (.int .i64 x.hhi) := by
  obtain ⟨b, off, ha, hb, hc⟩ := h.2 j x hx
  exact ⟨b, off, ha, hb, hc 0 _ rfl, hc 1 _ rfl, hc 2 _ rfl, hc 3 _ rfl⟩

/-- The numbers of a block just made are a row. -/
theorem IRow.new (w : World) (t : TypeId) (l : List Int) (hl : l.length ≤ 9223372036854775807) : IRow (w.alloc (.cells (l.map fun n => Value.int .i64 n).toArray t)) (some ⟨w.heap.size, 0, none⟩) l := by
  refine ⟨hl, fun j x hx => ⟨w.heap.size, 0, rfl, by simp, fun i v hv => ?_⟩⟩
  cases i with
  | succ i => simp [encI] at hv
  | zero =>
    simp only [encI, List.getElem?_cons_zero, Option.some.injEq] at hv
    subst hv
    simp only [World.cell?, World.alloc]
    simp [hx]

theorem IRow.new' (w : World) (t : TypeId) (l : List Int) (hl : l.length ≤ 9223372036854775807) (n : Nat) (hn : n = w.heap.size) (cs : Array Value) (hcs : cs = (l.map fun n => Value.int .i64 n).toArray) : IRow (w.alloc (.cells cs t)) (some ⟨n, 0, none⟩) l := by
  subst hn; subst hcs; exact IRow.new w t l hl

theorem new_cell (w : World) (cs : Array Value) (t : TypeId) {i : Nat} {v : Value} (h : cs[i]? = some v) : (w.alloc (.cells cs t)).cell? ⟨w.heap.size, i, none⟩ = some v := by
  simp only [World.cell?, World.alloc]
  simp [h]

/-- Block b holds these cells at its head. -/
def Box (w : World) (b : Nat) (vs : List Value) : Prop := b < w.heap.size ∧ ∀ i v, vs[i]? = some v → w.cell? ⟨b, i, none⟩ = some v

theorem Box.new (w : World) (vs : List Value) (t : TypeId) (n : Nat) (hn : n = w.heap.size) : Box (w.alloc (.cells vs.toArray t)) n vs := by
  subst hn
  exact ⟨by simp, fun i v h => new_cell w _ t (by simpa using h)⟩

theorem Box.keep {w w' : World} {b : Nat} {vs : List Value} (h : Box w b vs) (g : Gr w w') : Box w' b vs := ⟨Nat.lt_of_lt_of_le h.1 g.size, fun i v hv => g.cell h.1 (h.2 i v hv)⟩

theorem Box.c1 {w : World} {b : Nat} {x0 : Value} (h : Box w b [x0]) : w.cell? ⟨b, 0, none⟩ = some x0 := h.2 0 x0 rfl

theorem Box.c2 {w : World} {b : Nat} {x0 x1 : Value} (h : Box w b [x0, x1]) : w.cell? ⟨b, 0, none⟩ = some x0 ∧ w.cell? ⟨b, 1, none⟩ = some x1 := ⟨h.2 0 x0 rfl, h.2 1 x1 rfl⟩

theorem Box.c4 {w : World} {b : Nat} {x0 x1 x2 x3 : Value} (h : Box w b [x0, x1, x2, x3]) : w.cell? ⟨b, 0, none⟩ = some x0 ∧ w.cell? ⟨b, 1, none⟩ = some x1 ∧ w.cell? ⟨b, 2, none⟩ = some x2 ∧ w.cell? ⟨b, 3, none⟩ = some x3 :=
  ⟨h.2 0 x0 rfl, h.2 1 x1 rfl, h.2 2 x2 rfl, h.2 3 x3 rfl⟩

theorem Box.c6 {w : World} {b : Nat} {x0 x1 x2 x3 x4 x5 : Value} (h : Box w b [x0, x1, x2, x3, x4, x5]) : w.cell? ⟨b, 0, none⟩ = some x0 ∧ w.cell? ⟨b, 1, none⟩ = some x1 ∧ w.cell? ⟨b, 2, none⟩ = some x2 ∧ w.cell? ⟨b, 3, none⟩ = some x3 ∧
    w.cell? ⟨b, 4, none⟩ = some x4 ∧ w.cell? ⟨b, 5, none⟩ = some x5 :=
  ⟨h.2 0 x0 rfl, h.2 1 x1 rfl, h.2 2 x2 rfl, h.2 3 x3 rfl, h.2 4 x4 rfl, h.2 5 x5 rfl⟩

theorem Box.c8 {w : World} {b : Nat} {x0 x1 x2 x3 x4 x5 x6 x7 : Value} (h : Box w b [x0, x1, x2, x3, x4, x5, x6, x7]) : w.cell? ⟨b, 0, none⟩ = some x0 ∧ w.cell? ⟨b, 1, none⟩ = some x1 ∧ w.cell? ⟨b, 2, none⟩ = some x2 ∧ w.cell? ⟨b, 3, none⟩ = some x3 ∧
    w.cell? ⟨b, 4, none⟩ = some x4 ∧ w.cell? ⟨b, 5, none⟩ = some x5 ∧ w.cell? ⟨b, 6, none⟩ = some x6 ∧ w.cell? ⟨b, 7, none⟩ = some x7 :=
  ⟨h.2 0 x0 rfl, h.2 1 x1 rfl, h.2 2 x2 rfl, h.2 3 x3 rfl, h.2 4 x4 rfl, h.2 5 x5 rfl, h.2 6 x6 rfl, h.2 7 x7 rfl⟩

/-- A step on: what is known of the world at hand, said of a world that is a letter. -/
theorem wp_abs {P : Program} {c : Code} {Q : Exit → Act → World → Prop} {a : Act} {w : World} (F : World → Prop) (h : F w) (k : ∀ W, F W → Code.wp P c Q a W) : Code.wp P c Q a w := k w h

/-- Block b holds these cells and no others are frozen in it. -/
def Own (w : World) (b : Nat) (vs : List Value) : Prop := Box w b vs ∧ ∀ i, w.frozen? ⟨b, i, none⟩ = false

theorem Own.new (w : World) (vs : List Value) (t : TypeId) (n : Nat) (hn : n = w.heap.size) : Own (w.alloc (.cells vs.toArray t)) n vs := by
  refine ⟨Box.new w vs t n hn, fun i => ?_⟩
  subst hn
  simp

theorem Own.keep {w w' : World} {b : Nat} {vs : List Value} (h : Own w b vs) (g : Gr w w') : Own w' b vs :=
  ⟨h.1.keep g, fun i => (Below.frozen g (p := ⟨b, i, none⟩) h.1.1).trans (h.2 i)⟩

theorem ret_bool {a b : Bool} (h : a = b) : Ending.returned (.bool a) = .returned (.bool b) := by rw [h]

theorem ret_int {k : IntKind} {a b : Int} (h : a = b) : Ending.returned (.int k a) = .returned (.int k b) := by rw [h]

theorem get_of_lt {α : Type} {l : List α} {k : Nat} (h : k < l.length) : ∃ x, l[k]? = some x := ⟨_, List.getElem?_eq_getElem h⟩

theorem all_take_succ {α : Type} (p : α → Bool) {l : List α} {k : Nat} {x : α} (hx : l[k]? = some x) (h : (l.take k).all p = true) (hp : p x = true) : (l.take (k + 1)).all p = true := by
  rw [List.take_add_one, hx]
  simp [List.all_append, h, hp]

theorem not_all_of {α : Type} (p : α → Bool) {l : List α} {k : Nat} {x : α} (hx : l[k]? = some x) (hp : p x = false) : l.all p = false := by
  rw [List.all_eq_false]
  exact ⟨x, List.mem_of_getElem? hx, by simp [hp]⟩

end Go.Proofs.Ytkfhmfidgdpeiaa
