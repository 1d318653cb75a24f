/- Base: what a world holds for lists of numbers and structs; how it grows. Contracts of Within, Valid: all numbers of a list lie between two numbers. Contract of sort.Search. (Made by gen_k1.py.) What a store into one block leaves as it was, and what it turns. Contracts of crush: goodBox, goodRule, goodOff, goodReadings, strength, Strength. (Made by gen_k2.py.) The contract of crush.Strength. (Made by gen_k3.py.) The contract of crush.Rule. (Made by gen_k4.py.) Contracts of crush's truth and bears. Rows of steps and of loads; crush's until and last (begun). The contract of crush's boxed. The contract of crush's goodTable. The contract of crush's stored. crush's loads and members: the iterators' values. A range over a function where both the iterator and the rounds keep memory: each says which blocks it may turn; neither turns the other's. The statement itself: an outermost loop; a loop within a round. Append onto a row: its block behind the append is the row's own or a new one. crush's loads: the iterator's contract. crush's members: the iterator's contract. A region that draws its order: reads and calls come first in whatever order, while S holds; then stores one after the other, which may write what was read. One order of the reads and calls serves every one. A region that draws its order, in which loads, calls and allocations come up in many orders, and stores at the end in one: an invariant over the set of what has come up. One proof for each operation, not for each order. A region that draws its order, whose operations read and whose callees make memory of their own and turn none that was there: one walk serves every order. Contracts of the small functions of package score. Contracts of less, and of a sheet's panel, height, slot, flap. Contracts of valid, goodPaper, goodFlute, goodWish. Contracts of every over papers and flutes, and of Check. Contracts of kindAt, formed, numbered, Made. Contract of Made. Contracts of a sheet's flute and take. A map from int to int that a call makes: what it holds, number by number. Plain arithmetic of a board: parts, take-up, what is used of each paper, and the bounds. What a store leaves of a map; the contract of take. Rows that a call makes by append. Contracts of the law's small functions: pubIn, pubHas, pubByte, pubInts, pubSingle, pubDouble. The law of a region of calls and allocations, told with pairs; facts; rows apart from new variables. A region of calls, loads and allocations that draws its order: each operation hands over a value of which something is said that stays. One short proof for each operation. A region of calls, loads and allocations in many orders, within a round of a range over a function. -/
import Derived.WalkKit
import Derived.Handy
import Derived.Test.YtcdilmagcdbogaaProg
import Derived.Outline
import Derived.Lib.Hide
import Derived.Deep.RegionHeld3
import Derived.Deep.CutRange
import Derived.Deep.DeepCutAuto
import Derived.Lib.MinMax
import Derived.BigQuiet
import Derived.RangeFuncNested
import Derived.OwnWalkIn
import Derived.RangeFuncBound
import Derived.RangeFuncCalls
import Derived.RangeFuncLeaves
import Derived.Shelf.Abstract
import Derived.Shelf.RegionOpen
import Derived.TacticsInMore
import Derived.LoopNIn
import Derived.LoopIn
import Derived.Laws.Shifts
import Derived.Laws.BitsLemmas
import Derived.StillTail
import Derived.OrdersHeld
import Derived.RegionTactic
import Derived.WalkLawsBesides
import Derived.StillTailTactics
import Derived.Deep.QuietTactic
import Derived.WalkSmall
import Derived.Maps.OwnOps
import Derived.Maps.Views
import Derived.RangeFuncBox
import Derived.OrdersIn
namespace Go.Proofs.Ytcdilmagcdbogaa
set_option linter.unusedVariables false
set_option linter.unusedSimpArgs false
open Go.RowKit

/-- Whatever lay in w lies in w' as it lay. -/
abbrev Gr (w w' : World) : Prop := Below w.heap.size w w'

theorem Gr.tr {a b c : World} (h : Gr a b) (k : Gr b c) : Gr a c := Below.trans h (Below.mono k h.size)

theorem Gr.al (w : World) (o : Obj) : Gr w (w.alloc o) := (Below.refl _ w).alloc (Nat.le_refl _) o

theorem Gr.cell {w w' : World} (h : Gr w w') {b o : Nat} {v : Value} (hb : b < w.heap.size) (hc : w.cell? ⟨b, o, none⟩ = some v) : w'.cell? ⟨b, o, none⟩ = some v :=
  (Below.cell h (p := ⟨b, o, none⟩) hb).trans hc

theorem lt_of_cell {w : World} {b o : Nat} {v : Value} (hc : w.cell? ⟨b, o, none⟩ = some v) : b < w.heap.size := World.block_lt_of_cell? w ⟨b, o, none⟩ hc

theorem Gr.keep {w w' : World} (h : Gr w w') {b o : Nat} {v : Value} (hc : w.cell? ⟨b, o, none⟩ = some v) : w'.cell? ⟨b, o, none⟩ = some v :=
  h.cell (lt_of_cell hc) hc

/-- A row of elements of sz cells each, at a. -/
def RowOf {α : Type} (sz : Nat) (enc : α → List Value) (w : World) (a : Option Addr) (l : List α) : Prop :=
  l.length ≤ 9223372036854775807 ∧ ∀ j x, l[j]? = some x → ∃ b off, a = some ⟨b, off, none⟩ ∧ b < w.heap.size ∧ ∀ i v, (enc x)[i]? = some v → w.cell? ⟨b, off + j * sz + i, none⟩ = some v

theorem RowOf.grow {α : Type} {sz : Nat} {enc : α → List Value} {w w' : World} {a : Option Addr} {l : List α} (h : RowOf sz enc w a l) (g : Gr w w') : RowOf sz enc w' a l := by
  refine ⟨h.1, fun j x hx => ?_⟩
  obtain ⟨b, off, ha, hb, hc⟩ := h.2 j x hx
  exact ⟨b, off, ha, Nat.lt_of_lt_of_le hb g.size, fun i v hv => g.cell hb (hc i v hv)⟩

theorem RowOf.nil {α : Type} {sz : Nat} {enc : α → List Value} {w : World} {a : Option Addr} : RowOf sz enc w a ([] : List α) :=
  ⟨by simp, fun j x hx => by simp at hx⟩

structure Paper where
  kind : Int
  weight : Int
  tlo : Int
  thi : Int
  mlo : Int
  mhi : Int
  price : Int
  strong : Int

structure Flute where
  pitch : Int
  draw : Int
  hlo : Int
  hhi : Int

def num (n : Int) : Value := .int .i64 n

def encI (n : Int) : List Value := [.int .i64 n]

def encP (p : Paper) : List Value := [.int .i64 p.kind, .int .i64 p.weight, .int .i64 p.tlo, .int .i64 p.thi, .int .i64 p.mlo, .int .i64 p.mhi, .int .i64 p.price, .int .i64 p.strong]

def encF (f : Flute) : List Value := [.int .i64 f.pitch, .int .i64 f.draw, .int .i64 f.hlo, .int .i64 f.hhi]

abbrev IRow := RowOf 1 encI

abbrev PRow := RowOf 8 encP

abbrev FRow := RowOf 4 encF

theorem IRow.get {w : World} {a : Option Addr} {l : List Int} (h : IRow w a l) {j : Nat} {x : Int} (hx : l[j]? = some x) :
    ∃ b off, a = some ⟨b, off, none⟩ ∧ b < w.heap.size ∧ w.cell? ⟨b, off + j, none⟩ = some (.int .i64 x) := by
  obtain ⟨b, off, ha, hb, hc⟩ := h.2 j x hx
  have := hc 0 (.int .i64 x) rfl
  exact ⟨b, off, ha, hb, by simpa using this⟩

theorem PRow.get {w : World} {a : Option Addr} {l : List Paper} (h : PRow w a l) {j : Nat} {x : Paper} (hx : l[j]? = some x) :
    ∃ b off, a = some ⟨b, off, none⟩ ∧ b < w.heap.size ∧ w.cell? ⟨b, off + j * 8, none⟩ = some (.int .i64 x.kind) ∧ w.cell? ⟨b, off + j * 8 + 1, none⟩ = some (.int .i64 x.weight) ∧
      w.cell? ⟨b, off + j * 8 + 2, none⟩ = some (.int .i64 x.tlo) ∧ w.cell? ⟨b, off + j * 8 + 3, none⟩ = some (.int .i64 x.thi) ∧ w.cell? ⟨b, off + j * 8 + 4, none⟩ = some (.int .i64 x.mlo) ∧
      w.cell? ⟨b, off + j * 8 + 5, none⟩ = some (.int .i64 x.mhi) ∧ w.cell? ⟨b, off + j * 8 + 6, none⟩ = some (.int .i64 x.price) ∧ w.cell? ⟨b, off + j * 8 + 7, none⟩ = some (.int .i64 x.strong) := by
  obtain ⟨b, off, ha, hb, hc⟩ := h.2 j x hx
  exact ⟨b, off, ha, hb, hc 0 _ rfl, hc 1 _ rfl, hc 2 _ rfl, hc 3 _ rfl, hc 4 _ rfl, hc 5 _ rfl, hc 6 _ rfl, hc 7 _ rfl⟩

theorem FRow.get {w : World} {a : Option Addr} {l : List Flute} (h : FRow w a l) {j : Nat} {x : Flute} (hx : l[j]? = some x) :
    ∃ b off, a = some ⟨b, off, none⟩ ∧ b < w.heap.size ∧ w.cell? ⟨b, off + j * 4, none⟩ = some (.int .i64 x.pitch) ∧ w.cell? ⟨b, off + j * 4 + 1, none⟩ = some (.int .i64 x.draw) ∧
      w.cell? ⟨b, off + j * 4 + 2, none⟩ = some (.int .i64 x.hlo) ∧ w.cell? ⟨b, off + j * 4 + 3, none⟩ = some (.int .i64 x.hhi) := by
  obtain ⟨b, off, ha, hb, hc⟩ := h.2 j x hx
  exact ⟨b, off, ha, hb, hc 0 _ rfl, hc 1 _ rfl, hc 2 _ rfl, hc 3 _ rfl⟩

/-- The numbers of a block just made are a row. -/
theorem IRow.new (w : World) (t : TypeId) (l : List Int) (hl : l.length ≤ 9223372036854775807) : IRow (w.alloc (.cells (l.map fun n => Value.int .i64 n).toArray t)) (some ⟨w.heap.size, 0, none⟩) l := by
  refine ⟨hl, fun j x hx => ⟨w.heap.size, 0, rfl, by simp, fun i v hv => ?_⟩⟩
  cases i with
  | succ i => simp [encI] at hv
  | zero =>
    simp only [encI, List.getElem?_cons_zero, Option.some.injEq] at hv
    subst hv
    simp only [World.cell?, World.alloc]
    simp [hx]

theorem IRow.new' (w : World) (t : TypeId) (l : List Int) (hl : l.length ≤ 9223372036854775807) (n : Nat) (hn : n = w.heap.size) (cs : Array Value) (hcs : cs = (l.map fun n => Value.int .i64 n).toArray) : IRow (w.alloc (.cells cs t)) (some ⟨n, 0, none⟩) l := by
  subst hn; subst hcs; exact IRow.new w t l hl

theorem new_cell (w : World) (cs : Array Value) (t : TypeId) {i : Nat} {v : Value} (h : cs[i]? = some v) : (w.alloc (.cells cs t)).cell? ⟨w.heap.size, i, none⟩ = some v := by
  simp only [World.cell?, World.alloc]
  simp [h]

/-- Block b holds these cells at its head. -/
def Box (w : World) (b : Nat) (vs : List Value) : Prop := b < w.heap.size ∧ ∀ i v, vs[i]? = some v → w.cell? ⟨b, i, none⟩ = some v

theorem Box.new (w : World) (vs : List Value) (t : TypeId) (n : Nat) (hn : n = w.heap.size) : Box (w.alloc (.cells vs.toArray t)) n vs := by
  subst hn
  exact ⟨by simp, fun i v h => new_cell w _ t (by simpa using h)⟩

theorem Box.keep {w w' : World} {b : Nat} {vs : List Value} (h : Box w b vs) (g : Gr w w') : Box w' b vs := ⟨Nat.lt_of_lt_of_le h.1 g.size, fun i v hv => g.cell h.1 (h.2 i v hv)⟩

theorem Box.c1 {w : World} {b : Nat} {x0 : Value} (h : Box w b [x0]) : w.cell? ⟨b, 0, none⟩ = some x0 := h.2 0 x0 rfl

theorem Box.c2 {w : World} {b : Nat} {x0 x1 : Value} (h : Box w b [x0, x1]) : w.cell? ⟨b, 0, none⟩ = some x0 ∧ w.cell? ⟨b, 1, none⟩ = some x1 := ⟨h.2 0 x0 rfl, h.2 1 x1 rfl⟩

theorem Box.c4 {w : World} {b : Nat} {x0 x1 x2 x3 : Value} (h : Box w b [x0, x1, x2, x3]) : w.cell? ⟨b, 0, none⟩ = some x0 ∧ w.cell? ⟨b, 1, none⟩ = some x1 ∧ w.cell? ⟨b, 2, none⟩ = some x2 ∧ w.cell? ⟨b, 3, none⟩ = some x3 :=
  ⟨h.2 0 x0 rfl, h.2 1 x1 rfl, h.2 2 x2 rfl, h.2 3 x3 rfl⟩

theorem Box.c6 {w : World} {b : Nat} {x0 x1 x2 x3 x4 x5 : Value} (h : Box w b [x0, x1, x2, x3, x4, x5]) : w.cell? ⟨b, 0, none⟩ = some x0 ∧ w.cell? ⟨b, 1, none⟩ = some x1 ∧ w.cell? ⟨b, 2, none⟩ = some x2 ∧ w.cell? ⟨b, 3, none⟩ = some x3 ∧
    w.cell? ⟨b, 4, none⟩ = some x4 ∧ w.cell? ⟨b, 5, none⟩ = some x5 :=
  ⟨h.2 0 x0 rfl, h.2 1 x1 rfl, h.2 2 x2 rfl, h.2 3 x3 rfl, h.2 4 x4 rfl, h.2 5 x5 rfl⟩

theorem Box.c8 {w : World} {b : Nat} {x0 x1 x2 x3 x4 x5 x6 x7 : Value} (h : Box w b [x0, x1, x2, x3, x4, x5, x6, x7]) : w.cell? ⟨b, 0, none⟩ = some x0 ∧ w.cell? ⟨b, 1, none⟩ = some x1 ∧ w.cell? ⟨b, 2, none⟩ = some x2 ∧ w.cell? ⟨b, 3, none⟩ = some x3 ∧
    w.cell? ⟨b, 4, none⟩ = some x4 ∧ w.cell? ⟨b, 5, none⟩ = some x5 ∧ w.cell? ⟨b, 6, none⟩ = some x6 ∧ w.cell? ⟨b, 7, none⟩ = some x7 :=
  ⟨h.2 0 x0 rfl, h.2 1 x1 rfl, h.2 2 x2 rfl, h.2 3 x3 rfl, h.2 4 x4 rfl, h.2 5 x5 rfl, h.2 6 x6 rfl, h.2 7 x7 rfl⟩

/-- A step on: what is known of the world at hand, said of a world that is a letter. -/
theorem wp_abs {P : Program} {c : Code} {Q : Exit → Act → World → Prop} {a : Act} {w : World} (F : World → Prop) (h : F w) (k : ∀ W, F W → Code.wp P c Q a W) : Code.wp P c Q a w := k w h

/-- Block b holds these cells and no others are frozen in it. -/
def Own (w : World) (b : Nat) (vs : List Value) : Prop := Box w b vs ∧ ∀ i, w.frozen? ⟨b, i, none⟩ = false

theorem Own.new (w : World) (vs : List Value) (t : TypeId) (n : Nat) (hn : n = w.heap.size) : Own (w.alloc (.cells vs.toArray t)) n vs := by
  refine ⟨Box.new w vs t n hn, fun i => ?_⟩
  subst hn
  simp

theorem Own.keep {w w' : World} {b : Nat} {vs : List Value} (h : Own w b vs) (g : Gr w w') : Own w' b vs :=
  ⟨h.1.keep g, fun i => (Below.frozen g (p := ⟨b, i, none⟩) h.1.1).trans (h.2 i)⟩

theorem ret_bool {a b : Bool} (h : a = b) : Ending.returned (.bool a) = .returned (.bool b) := by rw [h]

theorem ret_int {k : IntKind} {a b : Int} (h : a = b) : Ending.returned (.int k a) = .returned (.int k b) := by rw [h]

theorem get_of_lt {α : Type} {l : List α} {k : Nat} (h : k < l.length) : ∃ x, l[k]? = some x := ⟨_, List.getElem?_eq_getElem h⟩

theorem all_take_succ {α : Type} (p : α → Bool) {l : List α} {k : Nat} {x : α} (hx : l[k]? = some x) (h : (l.take k).all p = true) (hp : p x = true) : (l.take (k + 1)).all p = true := by
  rw [List.take_add_one, hx]
  simp [List.all_append, h, hp]

theorem not_all_of {α : Type} (p : α → Bool) {l : List α} {k : Nat} {x : α} (hx : l[k]? = some x) (hp : p x = false) : l.all p = false := by
  rw [List.all_eq_false]
  exact ⟨x, List.mem_of_getElem? hx, by simp [hp]⟩

end Go.Proofs.Ytcdilmagcdbogaa

namespace Go.Proofs.Ytcdilmagcdbogaa
set_option linter.unusedVariables false
set_option linter.unusedSimpArgs false
open Go.RowKit

def in1 (lo hi n : Int) : Bool := decide (lo ≤ n) && decide (n ≤ hi)

def inB (lo hi : Int) (l : List Int) : Bool := l.all (in1 lo hi)

set_option maxHeartbeats 400000 in
theorem within_same (lo hi : Int) (l : List Int) (d : Bool) (hd : inB lo hi l = d) (a : Option Addr) (cap : Nat) (w : World) (hr : IRow w a l) :
    Calls Try.prog 79 #[.int .i64 lo, .int .i64 hi, .slice a l.length cap] w fun e w' => e = .returned (.bool d) ∧ w = w' := by
  have hm := hr.1
  have Hd := Lib.hid hd
  clear hd
  go_enter Try.func79, Try.ntmps79
  go_wp2
  go_loop [11] (fun i => ∃ k : Nat, k ≤ l.length ∧ i = .int .i64 k ∧ (l.take k).all (in1 lo hi) = true) (fun i => l.length - (intOf i).toNat)
  case atStart => exact ⟨0, Nat.zero_le _, rfl, rfl⟩
  case round =>
    obtain ⟨k, hk, rfl, hall⟩ := hrel
    have Hall := Lib.hid hall
    clear hall
    by_cases hlt : k < l.length
    · obtain ⟨x, hx⟩ := get_of_lt hlt
      obtain ⟨b0, off, rfl, hb, hc⟩ := hr.get hx
      have Hx := Lib.hid hx
      clear hx
      by_cases h1 : x < lo
      · have hf : d = false := by rw [← Hd.out]; exact not_all_of _ Hx.out (by simp [in1]; omega)
        have Hf := Lib.hid hf
        clear hf
        go_wp2
        go_ret
        exact ⟨ret_bool Hf.out.symm, rfl⟩
      · have h1' : decide (x < lo) = false := by simpa using h1
        by_cases h2 : hi < x
        · have hf : d = false := by rw [← Hd.out]; exact not_all_of _ Hx.out (by simp [in1]; omega)
          have Hf := Lib.hid hf
          clear hf
          go_wp2
          go_ret
          exact ⟨ret_bool Hf.out.symm, rfl⟩
        · have h2' : decide (hi < x) = false := by simpa using h2
          have hp : in1 lo hi x = true := by simp [in1]; omega
          have Hp := Lib.hid hp
          clear hp
          go_wp2
          go_round
          case rel => exact ⟨k + 1, by omega, by go_num, all_take_succ _ Hx.out Hall.out Hp.out⟩
          case measure => simp [intOf]; omega
    · have hf : d = true := by
        have h := Hall.out
        rw [List.take_of_length_le (by omega)] at h
        rw [← Hd.out]; exact h
      have Hf := Lib.hid hf
      clear hf
      go_wp2
      go_ret
      exact ⟨ret_bool Hf.out.symm, rfl⟩

theorem within_any (lo hi : Int) (l : List Int) (d : Bool) (hd : inB lo hi l = d) (a : Option Addr) (cap : Nat) (w : World) (hr : IRow w a l) :
    Calls Try.prog 79 #[.int .i64 lo, .int .i64 hi, .slice a l.length cap] w fun e w' => e = .returned (.bool d) ∧ Gr w w' :=
  (within_same lo hi l d hd a cap w hr).mono fun _ _ ⟨he, hw⟩ => ⟨he, hw ▸ Below.refl _ _⟩

/-- Spans: the least number, the greatest. -/
structure Sp where
  lo : Int
  hi : Int

def encS (s : Sp) : List Value := [.int .i64 s.lo, .int .i64 s.hi]

abbrev SRow := RowOf 2 encS

theorem SRow.get {w : World} {a : Option Addr} {l : List Sp} (h : SRow w a l) {j : Nat} {x : Sp} (hx : l[j]? = some x) :
    ∃ b off, a = some ⟨b, off, none⟩ ∧ b < w.heap.size ∧ w.cell? ⟨b, off + j * 2, none⟩ = some (.int .i64 x.lo) ∧ w.cell? ⟨b, off + j * 2 + 1, none⟩ = some (.int .i64 x.hi) := by
  obtain ⟨b, off, ha, hb, hc⟩ := h.2 j x hx
  exact ⟨b, off, ha, hb, hc 0 _ rfl, hc 1 _ rfl⟩

theorem SRow.new1 (w : World) (t : TypeId) (a b : Int) (n : Nat) (hn : n = w.heap.size) : SRow (w.alloc (.cells #[.int .i64 a, .int .i64 b] t)) (some ⟨n, 0, none⟩) [⟨a, b⟩] := by
  subst hn
  refine ⟨by simp, fun j x hx => ⟨w.heap.size, 0, rfl, by simp, fun i v hv => ?_⟩⟩
  match j, i with
  | 0, 0 => simp at hx; subst hx; simp [encS] at hv; subst hv; exact new_cell w _ t (by rfl)
  | 0, 1 => simp at hx; subst hx; simp [encS] at hv; subst hv; exact new_cell w _ t (by rfl)
  | 0, (n+2) => simp at hx; subst hx; simp [encS] at hv
  | (n+1), _ => simp at hx

theorem SRow.new2 (w : World) (t : TypeId) (a b c d : Int) (n : Nat) (hn : n = w.heap.size) : SRow (w.alloc (.cells #[.int .i64 a, .int .i64 b, .int .i64 c, .int .i64 d] t)) (some ⟨n, 0, none⟩) [⟨a, b⟩, ⟨c, d⟩] := by
  subst hn
  refine ⟨by simp, fun j x hx => ⟨w.heap.size, 0, rfl, by simp, fun i v hv => ?_⟩⟩
  match j, i with
  | 0, 0 => simp at hx; subst hx; simp [encS] at hv; subst hv; exact new_cell w _ t (by rfl)
  | 0, 1 => simp at hx; subst hx; simp [encS] at hv; subst hv; exact new_cell w _ t (by rfl)
  | 0, (n+2) => simp at hx; subst hx; simp [encS] at hv
  | 1, 0 => simp at hx; subst hx; simp [encS] at hv; subst hv; exact new_cell w _ t (by rfl)
  | 1, 1 => simp at hx; subst hx; simp [encS] at hv; subst hv; exact new_cell w _ t (by rfl)
  | 1, (n+2) => simp at hx; subst hx; simp [encS] at hv
  | (n+2), _ => simp at hx

def okSpan (lo hi a b : Int) : Bool := inB lo hi [a, b] && decide (a ≤ b)

def okSp (lo hi : Int) (s : Sp) : Bool := okSpan lo hi s.lo s.hi

set_option maxHeartbeats 1000000 in
theorem valids_any (lo hi : Int) (l : List Sp) (d : Bool) (hd : l.all (okSp lo hi) = d) (a : Option Addr) (cap : Nat) (w : World) (hr : SRow w a l) :
    Calls Try.prog 118 #[.int .i64 lo, .int .i64 hi, .slice a l.length cap] w fun e w' => e = .returned (.bool d) ∧ Gr w w' := by
  have hm := hr.1
  have Hd := Lib.hid hd
  clear hd
  go_enter Try.func118, Try.ntmps118
  go_wp2
  go_loopw [11] (fun i wr => ∃ k : Nat, k ≤ l.length ∧ i = .int .i64 k ∧ (l.take k).all (okSp lo hi) = true ∧ Gr w wr) (fun i wr => l.length - (intOf i).toNat)
  case atStart => exact ⟨0, Nat.zero_le _, rfl, rfl, Below.refl _ _⟩
  case round =>
    obtain ⟨k, hk, rfl, hall, hG⟩ := hrel
    have Hall := Lib.hid hall
    clear hall
    by_cases hlt : k < l.length
    · obtain ⟨x, hx⟩ := get_of_lt hlt
      obtain ⟨b0, off, rfl, hb, hc0, hc1⟩ := SRow.get (hr.grow hG) hx
      have Hx := Lib.hid hx
      clear hx
      obtain ⟨xl, xh⟩ := x
      simp only at hc0 hc1
      have hr1 := IRow.new' (wr.alloc (.cells #[.int .i64 xl, .int .i64 xh] 45)) 3 [xl, xh] (by simp) (wr.heap.size + 1) (by simp) #[.int .i64 xl, .int .i64 xh] (by simp)
      have hb := (Box.new wr [.int .i64 xl, .int .i64 xh] 45 wr.heap.size rfl).keep (Gr.al _ (.cells #[.int .i64 xl, .int .i64 xh] 3))
      have g2 : Gr wr ((wr.alloc (.cells #[.int .i64 xl, .int .i64 xh] 45)).alloc (.cells #[.int .i64 xl, .int .i64 xh] 3)) := Gr.tr (Gr.al _ _) (Gr.al _ _)
      cases c : inB lo hi [xl, xh] with
      | false =>
        have hf : d = false := by rw [← Hd.out]; exact not_all_of _ Hx.out (by simp [okSp, okSpan, c])
        have Hf := Lib.hid hf
        have C := Lib.hid c
        clear hf c
        go_wp2_with (go_at_call 79; refine (within_any _ _ [xl, xh] _ C.out _ _ _ hr1).mono ?_; rintro e w1 ⟨rfl, hg⟩)
        go_ret
        exact ⟨ret_bool Hf.out.symm, hG.tr (g2.tr hg)⟩
      | true =>
        have C := Lib.hid c
        by_cases h2 : xh < xl
        · have hf : d = false := by rw [← Hd.out]; exact not_all_of _ Hx.out (by simp [okSp, okSpan, c]; omega)
          have Hf := Lib.hid hf
          clear hf c
          go_wp2_with (go_at_call 79; refine (within_any _ _ [xl, xh] _ C.out _ _ _ hr1).mono ?_; rintro e w1 ⟨rfl, hg⟩; obtain ⟨q0, q1⟩ := (hb.keep hg).c2)
          go_ret
          exact ⟨ret_bool Hf.out.symm, hG.tr (g2.tr hg)⟩
        · have h2' : decide (xh < xl) = false := by simpa using h2
          have hp : okSp lo hi ⟨xl, xh⟩ = true := by simp [okSp, okSpan, c]; omega
          have Hp := Lib.hid hp
          clear hp c
          go_wp2_with (go_at_call 79; refine (within_any _ _ [xl, xh] _ C.out _ _ _ hr1).mono ?_; rintro e w1 ⟨rfl, hg⟩; obtain ⟨q0, q1⟩ := (hb.keep hg).c2)
          go_roundw
          case rel => exact ⟨k + 1, by omega, by go_num, all_take_succ _ Hx.out Hall.out Hp.out, hG.tr (g2.tr hg)⟩
          case measure => simp [intOf]; omega
    · have hf : d = true := by
        have h := Hall.out
        rw [List.take_of_length_le (by omega)] at h
        rw [← Hd.out]; exact h
      have Hf := Lib.hid hf
      clear hf
      go_wp2
      go_ret
      exact ⟨ret_bool Hf.out.symm, hG⟩

/-- Valid at one span. -/
theorem valid_any (lo hi a b : Int) (d : Bool) (hd : okSpan lo hi a b = d) (ad : Option Addr) (cap : Nat) (w : World) (hr : SRow w ad [⟨a, b⟩]) :
    Calls Try.prog 118 #[.int .i64 lo, .int .i64 hi, .slice ad 1 cap] w fun e w' => e = .returned (.bool d) ∧ Gr w w' :=
  valids_any lo hi [⟨a, b⟩] d (by simpa [okSp] using hd) ad cap w hr

end Go.Proofs.Ytcdilmagcdbogaa

namespace Go.Proofs.Ytcdilmagcdbogaa
set_option linter.unusedVariables false
set_option linter.unusedSimpArgs false
open Go.RowKit

set_option maxRecDepth 100000 in
set_option maxHeartbeats 2000000 in
theorem search1 (n : Int) (h0 : 0 ≤ n) (h1 : n ≤ 1000000000000) (p : Int → Bool) (hm : ∀ a b, 0 ≤ a → a ≤ b → b < n → p a = true → p b = true) (fid : FuncId) (c0 : Value) (w : World)
    (hcall : ∀ (args : Array Value) (W : World), (callFunc fid args).run Try.prog W = .ok (.enter fid args) W)
    (hf : ∀ (h : Int) (W : World), Gr w W → 0 ≤ h → h < n → Calls Try.prog fid #[.int .i64 h, c0] W fun e W' => e = .returned (.bool (p h)) ∧ Gr W W') :
    Calls Try.prog 96 #[.int .i64 n, .func (.func fid) #[] #[c0]] w fun e w' => ∃ r, e = .returned (.int .i64 r) ∧ 0 ≤ r ∧ r ≤ n ∧ (∀ a, 0 ≤ a → a < r → p a = false) ∧ (∀ a, r ≤ a → a < n → p a = true) ∧ Gr w w' := by
  have HM := Lib.hid hm
  have HF := Lib.hid hf
  clear hm hf
  go_enter Try.func96, Try.ntmps96
  go_wp2
  go_loopw [5, 6] (fun x y wr => Hid (∃ i j : Int, x = .int .i64 i ∧ y = .int .i64 j ∧ 0 ≤ i ∧ i ≤ j ∧ j ≤ n ∧ (∀ a, 0 ≤ a → a < i → p a = false) ∧ (∀ a, j ≤ a → a < n → p a = true) ∧ Gr w wr)) (fun x y wr => (intOf y - intOf x).toNat)
  case atStart => exact Lib.hid ⟨0, n, rfl, rfl, by omega, h0, by omega, fun a a0 a1 => by omega, fun a a0 a1 => by omega, Below.refl _ _⟩
  case round =>
    obtain ⟨i, j, rfl, rfl, i0, ij, jn, hlo, hhi, gW⟩ := hrel.out
    clear hrel
    have HL := Lib.hid hlo
    have HH := Lib.hid hhi
    clear hlo hhi
    by_cases hlt : i < j
    · have hw1 : IntKind.i64.wrap (i + j) = i + j := IntWalk.i64_in _ (by omega)
      go_wp2_with fail
      refine (HF.out _ wr gW (by omega) (by omega)).mono ?_
      rintro e w2 ⟨rfl, hy⟩
      cases hp : p ((i + j) / 2) with
      | true =>
        have Hp := Lib.hid hp
        clear hp
        go_wp2
        go_roundw
        case rel => exact Lib.hid ⟨i, (i + j) / 2, rfl, rfl, i0, by omega, by omega, HL.out, fun a a0 a1 => HM.out ((i + j) / 2) a (by omega) a0 a1 Hp.out, gW.tr hy⟩
        case measure => simp [intOf]; omega
      | false =>
        have Hp := Lib.hid hp
        clear hp
        have hw2 : IntKind.i64.wrap ((i + j) / 2 + 1) = (i + j) / 2 + 1 := IntWalk.i64_in _ (by omega)
        go_wp2
        go_roundw
        case rel =>
          refine Lib.hid ⟨(i + j) / 2 + 1, j, rfl, rfl, by omega, by omega, jn, fun a a0 a1 => ?_, HH.out, gW.tr hy⟩
          cases hq : p a with
          | false => rfl
          | true =>
            have := HM.out a ((i + j) / 2) a0 (by omega) (by omega) hq
            rw [Hp.out] at this
            cases this
        case measure => simp [intOf]; omega
    · obtain rfl : i = j := by omega
      go_wp2
      go_ret
      exact ⟨i, rfl, i0, jn, HL.out, HH.out, gW⟩

set_option maxRecDepth 100000 in
set_option maxHeartbeats 2000000 in
theorem search2 (n : Int) (h0 : 0 ≤ n) (h1 : n ≤ 1000000000000) (p : Int → Bool) (hm : ∀ a b, 0 ≤ a → a ≤ b → b < n → p a = true → p b = true) (fid : FuncId) (c0 c1 : Value) (w : World)
    (hcall : ∀ (args : Array Value) (W : World), (callFunc fid args).run Try.prog W = .ok (.enter fid args) W)
    (hf : ∀ (h : Int) (W : World), Gr w W → 0 ≤ h → h < n → Calls Try.prog fid #[.int .i64 h, c0, c1] W fun e W' => e = .returned (.bool (p h)) ∧ Gr W W') :
    Calls Try.prog 96 #[.int .i64 n, .func (.func fid) #[] #[c0, c1]] w fun e w' => ∃ r, e = .returned (.int .i64 r) ∧ 0 ≤ r ∧ r ≤ n ∧ (∀ a, 0 ≤ a → a < r → p a = false) ∧ (∀ a, r ≤ a → a < n → p a = true) ∧ Gr w w' := by
  have HM := Lib.hid hm
  have HF := Lib.hid hf
  clear hm hf
  go_enter Try.func96, Try.ntmps96
  go_wp2
  go_loopw [5, 6] (fun x y wr => Hid (∃ i j : Int, x = .int .i64 i ∧ y = .int .i64 j ∧ 0 ≤ i ∧ i ≤ j ∧ j ≤ n ∧ (∀ a, 0 ≤ a → a < i → p a = false) ∧ (∀ a, j ≤ a → a < n → p a = true) ∧ Gr w wr)) (fun x y wr => (intOf y - intOf x).toNat)
  case atStart => exact Lib.hid ⟨0, n, rfl, rfl, by omega, h0, by omega, fun a a0 a1 => by omega, fun a a0 a1 => by omega, Below.refl _ _⟩
  case round =>
    obtain ⟨i, j, rfl, rfl, i0, ij, jn, hlo, hhi, gW⟩ := hrel.out
    clear hrel
    have HL := Lib.hid hlo
    have HH := Lib.hid hhi
    clear hlo hhi
    by_cases hlt : i < j
    · have hw1 : IntKind.i64.wrap (i + j) = i + j := IntWalk.i64_in _ (by omega)
      go_wp2_with fail
      refine (HF.out _ wr gW (by omega) (by omega)).mono ?_
      rintro e w2 ⟨rfl, hy⟩
      cases hp : p ((i + j) / 2) with
      | true =>
        have Hp := Lib.hid hp
        clear hp
        go_wp2
        go_roundw
        case rel => exact Lib.hid ⟨i, (i + j) / 2, rfl, rfl, i0, by omega, by omega, HL.out, fun a a0 a1 => HM.out ((i + j) / 2) a (by omega) a0 a1 Hp.out, gW.tr hy⟩
        case measure => simp [intOf]; omega
      | false =>
        have Hp := Lib.hid hp
        clear hp
        have hw2 : IntKind.i64.wrap ((i + j) / 2 + 1) = (i + j) / 2 + 1 := IntWalk.i64_in _ (by omega)
        go_wp2
        go_roundw
        case rel =>
          refine Lib.hid ⟨(i + j) / 2 + 1, j, rfl, rfl, by omega, by omega, jn, fun a a0 a1 => ?_, HH.out, gW.tr hy⟩
          cases hq : p a with
          | false => rfl
          | true =>
            have := HM.out a ((i + j) / 2) a0 (by omega) (by omega) hq
            rw [Hp.out] at this
            cases this
        case measure => simp [intOf]; omega
    · obtain rfl : i = j := by omega
      go_wp2
      go_ret
      exact ⟨i, rfl, i0, jn, HL.out, HH.out, gW⟩

/-- The greatest integer whose square is at most n. -/
def rootN : Nat → Nat
  | 0 => 0
  | n + 1 => if (rootN n + 1) * (rootN n + 1) ≤ n + 1 then rootN n + 1 else rootN n

theorem rootN_spec : ∀ n, rootN n * rootN n ≤ n ∧ n < (rootN n + 1) * (rootN n + 1)
  | 0 => by simp [rootN]
  | n + 1 => by
    obtain ⟨a, b⟩ := rootN_spec n
    unfold rootN
    split
    · rename_i h
      refine ⟨h, ?_⟩
      have e : (rootN n + 1 + 1) * (rootN n + 1 + 1) = (rootN n + 1) * (rootN n + 1) + 2 * (rootN n + 1) + 1 := by
        simp only [Nat.add_mul, Nat.mul_add]
        omega
      omega
    · omega

def rootL (n : Int) : Int := rootN n.toNat

theorem root_unique {n r s : Int} (r0 : 0 ≤ r) (s0 : 0 ≤ s) (r1 : r * r ≤ n) (r2 : n < (r + 1) * (r + 1)) (s1 : s * s ≤ n) (s2 : n < (s + 1) * (s + 1)) : r = s := by
  have key : ∀ a b : Int, 0 ≤ a → 0 ≤ b → a * a ≤ n → n < (b + 1) * (b + 1) → a ≤ b := fun a b a0 b0 h1 h2 => by
    rcases Int.lt_or_le b a with h | h
    · exfalso
      have : (b + 1) * (b + 1) ≤ a * a := Int.mul_le_mul (by omega) (by omega) (by omega) a0
      omega
    · exact h
  have := key r s r0 s0 r1 s2
  have := key s r s0 r0 s1 r2
  omega

theorem rootL_spec {n : Int} (h : 0 ≤ n) : 0 ≤ rootL n ∧ rootL n * rootL n ≤ n ∧ n < (rootL n + 1) * (rootL n + 1) := by
  obtain ⟨a, b⟩ := rootN_spec n.toNat
  unfold rootL
  refine ⟨Int.natCast_nonneg _, ?_, ?_⟩
  · have : ((rootN n.toNat * rootN n.toNat : Nat) : Int) ≤ n := by omega
    simpa using this
  · have : n < (((rootN n.toNat + 1) * (rootN n.toNat + 1) : Nat) : Int) := by omega
    simpa using this

theorem rootL_is {n r : Int} (h : 0 ≤ n) (r0 : 0 ≤ r) (r1 : r * r ≤ n) (r2 : n < (r + 1) * (r + 1)) : rootL n = r := by
  obtain ⟨a, b, c⟩ := rootL_spec h
  exact root_unique a r0 b c r1 r2

theorem rootL_bd {n : Int} (h : 0 ≤ n) (h1 : n ≤ 1000000000000) : 0 ≤ rootL n ∧ rootL n ≤ 1000000 := by
  obtain ⟨a, b, c⟩ := rootL_spec h
  refine ⟨a, ?_⟩
  rcases Int.lt_or_le 1000000 (rootL n) with h2 | h2
  · have : (1000001 : Int) * 1000001 ≤ rootL n * rootL n := Int.mul_le_mul (by omega) (by omega) (by omega) a
    omega
  · exact h2

theorem callRoot (args : Array Value) (W : World) : (callFunc 143 args).run Try.prog W = .ok (.enter 143 args) W := by kernel_rfl

theorem rootClosure (n h : Int) (n1 : n ≤ 200000000) (n0 : 0 ≤ n) (h0 : 0 ≤ h) (h1 : h < n) (b : Nat) (W : World) (hb : W.cell? ⟨b, 0, none⟩ = some (.int .i64 n)) :
    Calls Try.prog 143 #[.int .i64 h, .pointer (some ⟨b, 0, none⟩)] W fun e W' => e = .returned (.bool (decide (n < (h + 1) * (h + 1)))) ∧ Gr W W' := by
  have m0 : 0 ≤ (h + 1) * (h + 1) := Int.mul_nonneg (by omega) (by omega)
  have m1 : (h + 1) * (h + 1) ≤ 200000001 * 200000001 := Int.mul_le_mul (by omega) (by omega) (by omega) (by omega)
  have hw : IntKind.i64.wrap ((h + 1) * (h + 1)) = (h + 1) * (h + 1) := IntWalk.i64_in _ (by omega)
  go_enter Try.func143, Try.ntmps143
  go_wp2
  go_ret
  exact ⟨rfl, Below.refl _ _⟩

set_option maxRecDepth 100000 in
set_option maxHeartbeats 1000000 in
theorem root_any (n : Int) (n0 : 1 ≤ n) (n1 : n ≤ 200000000) (w : World) :
    Calls Try.prog 119 #[.int .i64 n] w fun e w' => e = .returned (.int .i64 (rootL n)) ∧ Gr w w' := by
  have hb := Box.new w [.int .i64 n] 3 w.heap.size rfl
  have hb0 := hb.c1
  have gg := Gr.al w (.cells #[.int .i64 n] 3)
  have hs := search1 n (by omega) (by omega) (fun h => decide (n < (h + 1) * (h + 1))) (fun a b a0 ab bn h => by
    have h' := of_decide_eq_true h
    refine decide_eq_true ?_
    have : (a + 1) * (a + 1) ≤ (b + 1) * (b + 1) := Int.mul_le_mul (by omega) (by omega) (by omega) (by omega)
    omega) 143 (.pointer (some ⟨w.heap.size, 0, none⟩)) (w.alloc (.cells #[.int .i64 n] 3)) callRoot (fun h W hW h0 h1 => rootClosure n h n1 (by omega) h0 h1 _ W (hW.keep hb0))
  have HS := Lib.hid hs
  have HG := Lib.hid gg
  clear hs hb gg
  go_enter Try.func119, Try.ntmps119
  go_wp2_with (go_at_call 96; refine HS.out.mono ?_; rintro e w2 ⟨r, rfl, r0, r1, hlo, hhi, hg⟩)
  have er : rootL n = r := by
    refine rootL_is (by omega) r0 ?_ ?_
    · rcases Int.lt_or_le 0 r with h | h
      · have := hlo (r - 1) (by omega) (by omega)
        have := of_decide_eq_false this
        simp only [Int.sub_add_cancel] at this
        omega
      · have e : r = 0 := by omega
        subst e
        simp
        omega
    · rcases Int.lt_or_le r n with h | h
      · exact of_decide_eq_true (hhi r (Int.le_refl _) h)
      · have e : r = n := by omega
        subst e
        have : r * 1 ≤ r * (r + 1) := Int.mul_le_mul_of_nonneg_left (by omega) (by omega)
        rw [Int.add_mul]
        omega
  have Er := Lib.hid er
  clear er hlo hhi
  go_ret
  exact ⟨ret_int Er.out.symm, HG.out.tr hg⟩

end Go.Proofs.Ytcdilmagcdbogaa

namespace Go.Proofs.Ytcdilmagcdbogaa
set_option linter.unusedVariables false
set_option linter.unusedSimpArgs false
open Go.RowKit

theorem Gr.dr (w : World) : Gr w w.drew := (Below.refl _ w).drew

theorem cell_set {w : World} {b i : Nat} {u : Value} (v : Value) (h : w.cell? ⟨b, i, none⟩ = some u) : (w.setCell ⟨b, i, none⟩ v).cell? ⟨b, i, none⟩ = some v :=
  World.cell?_setCell_same' _ _ _ (by rw [h]; rfl)

theorem cell_set_ne {w : World} {b c i j : Nat} (v : Value) (h : c ≠ b ∨ j ≠ i) : (w.setCell ⟨b, i, none⟩ v).cell? ⟨c, j, none⟩ = w.cell? ⟨c, j, none⟩ :=
  World.cell?_setCell_other _ _ _ _ (by rintro e; injection e with e1 e2; rcases h with h | h <;> exact h (by first | exact e1 | exact e1.symm | exact e2 | exact e2.symm))

theorem Own.other {w : World} {b c i : Nat} {vs : List Value} {v : Value} (h : Own w c vs) (hne : c ≠ b) : Own (w.setCell ⟨b, i, none⟩ v) c vs :=
  ⟨⟨by simpa using h.1.1, fun j u hu => by rw [cell_set_ne v (.inl hne)]; exact h.1.2 j u hu⟩, fun j => by rw [World.frozen?_setCell]; exact h.2 j⟩

theorem Own.set {w : World} {b i : Nat} {vs : List Value} {v : Value} (h : Own w b vs) (hi : i < vs.length) : Own (w.setCell ⟨b, i, none⟩ v) b (vs.set i v) := by
  refine ⟨⟨by simpa using h.1.1, fun j u hu => ?_⟩, fun j => by rw [World.frozen?_setCell]; exact h.2 j⟩
  by_cases hj : j = i
  · subst hj
    rw [List.getElem?_set_self hi] at hu
    cases hu
    obtain ⟨x, hx⟩ := get_of_lt hi
    exact cell_set v (h.1.2 j x hx)
  · rw [cell_set_ne v (.inr hj)]
    rw [List.getElem?_set_ne (by omega)] at hu
    exact h.1.2 j u hu

/-- A map's store turns no other block. -/
theorem Own.grown {w w' : World} {b m : Nat} {vs : List Value} (h : Own w b vs) (g : w.grownBy w' (some m)) (hne : b ≠ m) : Own w' b vs := by
  have hb := g.block b h.1.1 (fun e => hne (by injection e))
  exact ⟨⟨Nat.lt_of_lt_of_le h.1.1 g.size, fun i v hv => (World.cell?_of_block (w := w) (a := ⟨b, i, none⟩) hb).trans (h.1.2 i v hv)⟩, fun i => (World.frozen?_of_block (w := w) (a := ⟨b, i, none⟩) hb).trans (h.2 i)⟩

end Go.Proofs.Ytcdilmagcdbogaa

namespace Go.Proofs.Ytcdilmagcdbogaa
set_option linter.unusedVariables false
set_option linter.unusedSimpArgs false
open Go.RowKit

theorem Box.c6' {w : World} {b : Nat} {x0 x1 x2 x3 x4 x5 : Value} (h : Box w b [x0, x1, x2, x3, x4, x5]) : w.cell? ⟨b, 0, none⟩ = some x0 ∧ w.cell? ⟨b, 1, none⟩ = some x1 ∧ w.cell? ⟨b, 2, none⟩ = some x2 ∧ w.cell? ⟨b, 3, none⟩ = some x3 ∧ w.cell? ⟨b, 4, none⟩ = some x4 ∧ w.cell? ⟨b, 5, none⟩ = some x5 := ⟨h.2 0 x0 rfl, h.2 1 x1 rfl, h.2 2 x2 rfl, h.2 3 x3 rfl, h.2 4 x4 rfl, h.2 5 x5 rfl⟩

theorem Box.c4' {w : World} {b : Nat} {x0 x1 x2 x3 : Value} (h : Box w b [x0, x1, x2, x3]) : w.cell? ⟨b, 0, none⟩ = some x0 ∧ w.cell? ⟨b, 1, none⟩ = some x1 ∧ w.cell? ⟨b, 2, none⟩ = some x2 ∧ w.cell? ⟨b, 3, none⟩ = some x3 := ⟨h.2 0 x0 rfl, h.2 1 x1 rfl, h.2 2 x2 rfl, h.2 3 x3 rfl⟩

def boxOk (el eh cl ch ar ru : Int) : Bool := okSpan 0 100000 el eh && okSpan 1 10000 cl ch && inB 1 20000 [ar] && inB 1 1000 [ru]

set_option maxRecDepth 100000 in
set_option maxHeartbeats 2000000 in
theorem goodBox_any (el eh cl ch ar ru : Int) (w : World) :
    Calls Try.prog 83 #[.agg #[.int .i64 el, .int .i64 eh, .int .i64 cl, .int .i64 ch, .int .i64 ar, .int .i64 ru]] w fun e w' => e = .returned (.bool (boxOk el eh cl ch ar ru)) ∧ Gr w w' := by
  have hb := Box.new w [.int .i64 el, .int .i64 eh, .int .i64 cl, .int .i64 ch, .int .i64 ar, .int .i64 ru] 47 w.heap.size rfl
  have gg := Gr.al w (.cells #[.int .i64 el, .int .i64 eh, .int .i64 cl, .int .i64 ch, .int .i64 ar, .int .i64 ru] 47)
  cases c0 : okSpan 0 100000 el eh with
  | false =>
    have E : boxOk el eh cl ch ar ru = false := by simp [boxOk, c0]
    rw [E]
    obtain ⟨q0, q1, q2, q3, q4, q5⟩ := hb.c6'
    have tok0 : True := trivial
    have tok1 : True := trivial
    have tok2 : True := trivial
    have tok3 : True := trivial
    go_enter Try.func83, Try.ntmps83
    go_wp2_with (first | (have _t := tok0; clear tok0 _t; go_at_call 118; refine (valid_any 0 100000 el eh _ (by assumption) _ _ _ (SRow.new1 _ 45 _ _ _ (by simp))).mono ?_; rintro e w1 ⟨rfl, hg⟩; have hg2 := Gr.tr (Gr.al _ _) hg; replace gg := gg.tr hg2; replace hb := hb.keep hg2; obtain ⟨q0, q1, q2, q3, q4, q5⟩ := hb.c6'; clear hg hg2) | (have _t := tok1; clear tok1 _t; go_at_call 118; refine (valid_any 1 10000 cl ch _ (by assumption) _ _ _ (SRow.new1 _ 45 _ _ _ (by simp))).mono ?_; rintro e w1 ⟨rfl, hg⟩; have hg2 := Gr.tr (Gr.al _ _) hg; replace gg := gg.tr hg2; replace hb := hb.keep hg2; obtain ⟨q0, q1, q2, q3, q4, q5⟩ := hb.c6'; clear hg hg2) | (have _t := tok2; clear tok2 _t; go_at_call 79; refine (within_any 1 20000 [ar] _ (by assumption) _ _ _ (IRow.new' _ 3 [ar] (by simp) _ (by simp) _ (by simp))).mono ?_; rintro e w1 ⟨rfl, hg⟩; have hg2 := Gr.tr (Gr.al _ _) hg; replace gg := gg.tr hg2; replace hb := hb.keep hg2; obtain ⟨q0, q1, q2, q3, q4, q5⟩ := hb.c6'; clear hg hg2) | (have _t := tok3; clear tok3 _t; go_at_call 79; refine (within_any 1 1000 [ru] _ (by assumption) _ _ _ (IRow.new' _ 3 [ru] (by simp) _ (by simp) _ (by simp))).mono ?_; rintro e w1 ⟨rfl, hg⟩; have hg2 := Gr.tr (Gr.al _ _) hg; replace gg := gg.tr hg2; replace hb := hb.keep hg2; obtain ⟨q0, q1, q2, q3, q4, q5⟩ := hb.c6'; clear hg hg2))
    go_ret
    exact ⟨rfl, gg⟩
  | true =>
    cases c1 : okSpan 1 10000 cl ch with
    | false =>
      have E : boxOk el eh cl ch ar ru = false := by simp [boxOk, c0, c1]
      rw [E]
      obtain ⟨q0, q1, q2, q3, q4, q5⟩ := hb.c6'
      have tok0 : True := trivial
      have tok1 : True := trivial
      have tok2 : True := trivial
      have tok3 : True := trivial
      go_enter Try.func83, Try.ntmps83
      go_wp2_with (first | (have _t := tok0; clear tok0 _t; go_at_call 118; refine (valid_any 0 100000 el eh _ (by assumption) _ _ _ (SRow.new1 _ 45 _ _ _ (by simp))).mono ?_; rintro e w1 ⟨rfl, hg⟩; have hg2 := Gr.tr (Gr.al _ _) hg; replace gg := gg.tr hg2; replace hb := hb.keep hg2; obtain ⟨q0, q1, q2, q3, q4, q5⟩ := hb.c6'; clear hg hg2) | (have _t := tok1; clear tok1 _t; go_at_call 118; refine (valid_any 1 10000 cl ch _ (by assumption) _ _ _ (SRow.new1 _ 45 _ _ _ (by simp))).mono ?_; rintro e w1 ⟨rfl, hg⟩; have hg2 := Gr.tr (Gr.al _ _) hg; replace gg := gg.tr hg2; replace hb := hb.keep hg2; obtain ⟨q0, q1, q2, q3, q4, q5⟩ := hb.c6'; clear hg hg2) | (have _t := tok2; clear tok2 _t; go_at_call 79; refine (within_any 1 20000 [ar] _ (by assumption) _ _ _ (IRow.new' _ 3 [ar] (by simp) _ (by simp) _ (by simp))).mono ?_; rintro e w1 ⟨rfl, hg⟩; have hg2 := Gr.tr (Gr.al _ _) hg; replace gg := gg.tr hg2; replace hb := hb.keep hg2; obtain ⟨q0, q1, q2, q3, q4, q5⟩ := hb.c6'; clear hg hg2) | (have _t := tok3; clear tok3 _t; go_at_call 79; refine (within_any 1 1000 [ru] _ (by assumption) _ _ _ (IRow.new' _ 3 [ru] (by simp) _ (by simp) _ (by simp))).mono ?_; rintro e w1 ⟨rfl, hg⟩; have hg2 := Gr.tr (Gr.al _ _) hg; replace gg := gg.tr hg2; replace hb := hb.keep hg2; obtain ⟨q0, q1, q2, q3, q4, q5⟩ := hb.c6'; clear hg hg2))
      go_ret
      exact ⟨rfl, gg⟩
    | true =>
      cases c2 : inB 1 20000 [ar] with
      | false =>
        have E : boxOk el eh cl ch ar ru = false := by simp [boxOk, c0, c1, c2]
        rw [E]
        obtain ⟨q0, q1, q2, q3, q4, q5⟩ := hb.c6'
        have tok0 : True := trivial
        have tok1 : True := trivial
        have tok2 : True := trivial
        have tok3 : True := trivial
        go_enter Try.func83, Try.ntmps83
        go_wp2_with (first | (have _t := tok0; clear tok0 _t; go_at_call 118; refine (valid_any 0 100000 el eh _ (by assumption) _ _ _ (SRow.new1 _ 45 _ _ _ (by simp))).mono ?_; rintro e w1 ⟨rfl, hg⟩; have hg2 := Gr.tr (Gr.al _ _) hg; replace gg := gg.tr hg2; replace hb := hb.keep hg2; obtain ⟨q0, q1, q2, q3, q4, q5⟩ := hb.c6'; clear hg hg2) | (have _t := tok1; clear tok1 _t; go_at_call 118; refine (valid_any 1 10000 cl ch _ (by assumption) _ _ _ (SRow.new1 _ 45 _ _ _ (by simp))).mono ?_; rintro e w1 ⟨rfl, hg⟩; have hg2 := Gr.tr (Gr.al _ _) hg; replace gg := gg.tr hg2; replace hb := hb.keep hg2; obtain ⟨q0, q1, q2, q3, q4, q5⟩ := hb.c6'; clear hg hg2) | (have _t := tok2; clear tok2 _t; go_at_call 79; refine (within_any 1 20000 [ar] _ (by assumption) _ _ _ (IRow.new' _ 3 [ar] (by simp) _ (by simp) _ (by simp))).mono ?_; rintro e w1 ⟨rfl, hg⟩; have hg2 := Gr.tr (Gr.al _ _) hg; replace gg := gg.tr hg2; replace hb := hb.keep hg2; obtain ⟨q0, q1, q2, q3, q4, q5⟩ := hb.c6'; clear hg hg2) | (have _t := tok3; clear tok3 _t; go_at_call 79; refine (within_any 1 1000 [ru] _ (by assumption) _ _ _ (IRow.new' _ 3 [ru] (by simp) _ (by simp) _ (by simp))).mono ?_; rintro e w1 ⟨rfl, hg⟩; have hg2 := Gr.tr (Gr.al _ _) hg; replace gg := gg.tr hg2; replace hb := hb.keep hg2; obtain ⟨q0, q1, q2, q3, q4, q5⟩ := hb.c6'; clear hg hg2))
        go_ret
        exact ⟨rfl, gg⟩
      | true =>
        cases c3 : inB 1 1000 [ru] with
        | false =>
          have E : boxOk el eh cl ch ar ru = false := by simp [boxOk, c0, c1, c2, c3]
          rw [E]
          obtain ⟨q0, q1, q2, q3, q4, q5⟩ := hb.c6'
          have tok0 : True := trivial
          have tok1 : True := trivial
          have tok2 : True := trivial
          have tok3 : True := trivial
          go_enter Try.func83, Try.ntmps83
          go_wp2_with (first | (have _t := tok0; clear tok0 _t; go_at_call 118; refine (valid_any 0 100000 el eh _ (by assumption) _ _ _ (SRow.new1 _ 45 _ _ _ (by simp))).mono ?_; rintro e w1 ⟨rfl, hg⟩; have hg2 := Gr.tr (Gr.al _ _) hg; replace gg := gg.tr hg2; replace hb := hb.keep hg2; obtain ⟨q0, q1, q2, q3, q4, q5⟩ := hb.c6'; clear hg hg2) | (have _t := tok1; clear tok1 _t; go_at_call 118; refine (valid_any 1 10000 cl ch _ (by assumption) _ _ _ (SRow.new1 _ 45 _ _ _ (by simp))).mono ?_; rintro e w1 ⟨rfl, hg⟩; have hg2 := Gr.tr (Gr.al _ _) hg; replace gg := gg.tr hg2; replace hb := hb.keep hg2; obtain ⟨q0, q1, q2, q3, q4, q5⟩ := hb.c6'; clear hg hg2) | (have _t := tok2; clear tok2 _t; go_at_call 79; refine (within_any 1 20000 [ar] _ (by assumption) _ _ _ (IRow.new' _ 3 [ar] (by simp) _ (by simp) _ (by simp))).mono ?_; rintro e w1 ⟨rfl, hg⟩; have hg2 := Gr.tr (Gr.al _ _) hg; replace gg := gg.tr hg2; replace hb := hb.keep hg2; obtain ⟨q0, q1, q2, q3, q4, q5⟩ := hb.c6'; clear hg hg2) | (have _t := tok3; clear tok3 _t; go_at_call 79; refine (within_any 1 1000 [ru] _ (by assumption) _ _ _ (IRow.new' _ 3 [ru] (by simp) _ (by simp) _ (by simp))).mono ?_; rintro e w1 ⟨rfl, hg⟩; have hg2 := Gr.tr (Gr.al _ _) hg; replace gg := gg.tr hg2; replace hb := hb.keep hg2; obtain ⟨q0, q1, q2, q3, q4, q5⟩ := hb.c6'; clear hg hg2))
          go_ret
          exact ⟨rfl, gg⟩
        | true =>
          have E : boxOk el eh cl ch ar ru = true := by simp [boxOk, c0, c1, c2, c3]
          rw [E]
          obtain ⟨q0, q1, q2, q3, q4, q5⟩ := hb.c6'
          have tok0 : True := trivial
          have tok1 : True := trivial
          have tok2 : True := trivial
          have tok3 : True := trivial
          go_enter Try.func83, Try.ntmps83
          go_wp2_with (first | (have _t := tok0; clear tok0 _t; go_at_call 118; refine (valid_any 0 100000 el eh _ (by assumption) _ _ _ (SRow.new1 _ 45 _ _ _ (by simp))).mono ?_; rintro e w1 ⟨rfl, hg⟩; have hg2 := Gr.tr (Gr.al _ _) hg; replace gg := gg.tr hg2; replace hb := hb.keep hg2; obtain ⟨q0, q1, q2, q3, q4, q5⟩ := hb.c6'; clear hg hg2) | (have _t := tok1; clear tok1 _t; go_at_call 118; refine (valid_any 1 10000 cl ch _ (by assumption) _ _ _ (SRow.new1 _ 45 _ _ _ (by simp))).mono ?_; rintro e w1 ⟨rfl, hg⟩; have hg2 := Gr.tr (Gr.al _ _) hg; replace gg := gg.tr hg2; replace hb := hb.keep hg2; obtain ⟨q0, q1, q2, q3, q4, q5⟩ := hb.c6'; clear hg hg2) | (have _t := tok2; clear tok2 _t; go_at_call 79; refine (within_any 1 20000 [ar] _ (by assumption) _ _ _ (IRow.new' _ 3 [ar] (by simp) _ (by simp) _ (by simp))).mono ?_; rintro e w1 ⟨rfl, hg⟩; have hg2 := Gr.tr (Gr.al _ _) hg; replace gg := gg.tr hg2; replace hb := hb.keep hg2; obtain ⟨q0, q1, q2, q3, q4, q5⟩ := hb.c6'; clear hg hg2) | (have _t := tok3; clear tok3 _t; go_at_call 79; refine (within_any 1 1000 [ru] _ (by assumption) _ _ _ (IRow.new' _ 3 [ru] (by simp) _ (by simp) _ (by simp))).mono ?_; rintro e w1 ⟨rfl, hg⟩; have hg2 := Gr.tr (Gr.al _ _) hg; replace gg := gg.tr hg2; replace hb := hb.keep hg2; obtain ⟨q0, q1, q2, q3, q4, q5⟩ := hb.c6'; clear hg hg2))
          go_ret
          exact ⟨rfl, gg⟩

def ruleOk (te me lo ba : Int) : Bool := inB 1 20 [te] && inB 0 100000 [me, lo] && inB 0 te [ba]

set_option maxRecDepth 100000 in
set_option maxHeartbeats 2000000 in
theorem goodRule_any (te me lo ba : Int) (w : World) :
    Calls Try.prog 72 #[.agg #[.int .i64 te, .int .i64 me, .int .i64 lo, .int .i64 ba]] w fun e w' => e = .returned (.bool (ruleOk te me lo ba)) ∧ Gr w w' := by
  have hb := Box.new w [.int .i64 te, .int .i64 me, .int .i64 lo, .int .i64 ba] 23 w.heap.size rfl
  have gg := Gr.al w (.cells #[.int .i64 te, .int .i64 me, .int .i64 lo, .int .i64 ba] 23)
  cases c0 : inB 1 20 [te] with
  | false =>
    have E : ruleOk te me lo ba = false := by simp [ruleOk, c0]
    rw [E]
    obtain ⟨q0, q1, q2, q3⟩ := hb.c4'
    have tok0 : True := trivial
    have tok1 : True := trivial
    have tok2 : True := trivial
    go_enter Try.func72, Try.ntmps72
    go_wp2_with (first | (have _t := tok0; clear tok0 _t; go_at_call 79; refine (within_any 1 20 [te] _ (by assumption) _ _ _ (IRow.new' _ 3 [te] (by simp) _ (by simp) _ (by simp))).mono ?_; rintro e w1 ⟨rfl, hg⟩; have hg2 := Gr.tr (Gr.al _ _) hg; replace gg := gg.tr hg2; replace hb := hb.keep hg2; obtain ⟨q0, q1, q2, q3⟩ := hb.c4'; clear hg hg2) | (have _t := tok1; clear tok1 _t; go_at_call 79; refine (within_any 0 100000 [me, lo] _ (by assumption) _ _ _ (IRow.new' _ 3 [me, lo] (by simp) _ (by simp) _ (by simp))).mono ?_; rintro e w1 ⟨rfl, hg⟩; have hg2 := Gr.tr (Gr.al _ _) hg; replace gg := gg.tr hg2; replace hb := hb.keep hg2; obtain ⟨q0, q1, q2, q3⟩ := hb.c4'; clear hg hg2) | (have _t := tok2; clear tok2 _t; go_at_call 79; refine (within_any 0 te [ba] _ (by assumption) _ _ _ (IRow.new' _ 3 [ba] (by simp) _ (by simp) _ (by simp))).mono ?_; rintro e w1 ⟨rfl, hg⟩; have hg2 := Gr.tr (Gr.al _ _) hg; replace gg := gg.tr hg2; replace hb := hb.keep hg2; obtain ⟨q0, q1, q2, q3⟩ := hb.c4'; clear hg hg2))
    go_ret
    exact ⟨rfl, gg⟩
  | true =>
    cases c1 : inB 0 100000 [me, lo] with
    | false =>
      have E : ruleOk te me lo ba = false := by simp [ruleOk, c0, c1]
      rw [E]
      obtain ⟨q0, q1, q2, q3⟩ := hb.c4'
      have tok0 : True := trivial
      have tok1 : True := trivial
      have tok2 : True := trivial
      go_enter Try.func72, Try.ntmps72
      go_wp2_with (first | (have _t := tok0; clear tok0 _t; go_at_call 79; refine (within_any 1 20 [te] _ (by assumption) _ _ _ (IRow.new' _ 3 [te] (by simp) _ (by simp) _ (by simp))).mono ?_; rintro e w1 ⟨rfl, hg⟩; have hg2 := Gr.tr (Gr.al _ _) hg; replace gg := gg.tr hg2; replace hb := hb.keep hg2; obtain ⟨q0, q1, q2, q3⟩ := hb.c4'; clear hg hg2) | (have _t := tok1; clear tok1 _t; go_at_call 79; refine (within_any 0 100000 [me, lo] _ (by assumption) _ _ _ (IRow.new' _ 3 [me, lo] (by simp) _ (by simp) _ (by simp))).mono ?_; rintro e w1 ⟨rfl, hg⟩; have hg2 := Gr.tr (Gr.al _ _) hg; replace gg := gg.tr hg2; replace hb := hb.keep hg2; obtain ⟨q0, q1, q2, q3⟩ := hb.c4'; clear hg hg2) | (have _t := tok2; clear tok2 _t; go_at_call 79; refine (within_any 0 te [ba] _ (by assumption) _ _ _ (IRow.new' _ 3 [ba] (by simp) _ (by simp) _ (by simp))).mono ?_; rintro e w1 ⟨rfl, hg⟩; have hg2 := Gr.tr (Gr.al _ _) hg; replace gg := gg.tr hg2; replace hb := hb.keep hg2; obtain ⟨q0, q1, q2, q3⟩ := hb.c4'; clear hg hg2))
      go_ret
      exact ⟨rfl, gg⟩
    | true =>
      cases c2 : inB 0 te [ba] with
      | false =>
        have E : ruleOk te me lo ba = false := by simp [ruleOk, c0, c1, c2]
        rw [E]
        obtain ⟨q0, q1, q2, q3⟩ := hb.c4'
        have tok0 : True := trivial
        have tok1 : True := trivial
        have tok2 : True := trivial
        go_enter Try.func72, Try.ntmps72
        go_wp2_with (first | (have _t := tok0; clear tok0 _t; go_at_call 79; refine (within_any 1 20 [te] _ (by assumption) _ _ _ (IRow.new' _ 3 [te] (by simp) _ (by simp) _ (by simp))).mono ?_; rintro e w1 ⟨rfl, hg⟩; have hg2 := Gr.tr (Gr.al _ _) hg; replace gg := gg.tr hg2; replace hb := hb.keep hg2; obtain ⟨q0, q1, q2, q3⟩ := hb.c4'; clear hg hg2) | (have _t := tok1; clear tok1 _t; go_at_call 79; refine (within_any 0 100000 [me, lo] _ (by assumption) _ _ _ (IRow.new' _ 3 [me, lo] (by simp) _ (by simp) _ (by simp))).mono ?_; rintro e w1 ⟨rfl, hg⟩; have hg2 := Gr.tr (Gr.al _ _) hg; replace gg := gg.tr hg2; replace hb := hb.keep hg2; obtain ⟨q0, q1, q2, q3⟩ := hb.c4'; clear hg hg2) | (have _t := tok2; clear tok2 _t; go_at_call 79; refine (within_any 0 te [ba] _ (by assumption) _ _ _ (IRow.new' _ 3 [ba] (by simp) _ (by simp) _ (by simp))).mono ?_; rintro e w1 ⟨rfl, hg⟩; have hg2 := Gr.tr (Gr.al _ _) hg; replace gg := gg.tr hg2; replace hb := hb.keep hg2; obtain ⟨q0, q1, q2, q3⟩ := hb.c4'; clear hg hg2))
        go_ret
        exact ⟨rfl, gg⟩
      | true =>
        have E : ruleOk te me lo ba = true := by simp [ruleOk, c0, c1, c2]
        rw [E]
        obtain ⟨q0, q1, q2, q3⟩ := hb.c4'
        have tok0 : True := trivial
        have tok1 : True := trivial
        have tok2 : True := trivial
        go_enter Try.func72, Try.ntmps72
        go_wp2_with (first | (have _t := tok0; clear tok0 _t; go_at_call 79; refine (within_any 1 20 [te] _ (by assumption) _ _ _ (IRow.new' _ 3 [te] (by simp) _ (by simp) _ (by simp))).mono ?_; rintro e w1 ⟨rfl, hg⟩; have hg2 := Gr.tr (Gr.al _ _) hg; replace gg := gg.tr hg2; replace hb := hb.keep hg2; obtain ⟨q0, q1, q2, q3⟩ := hb.c4'; clear hg hg2) | (have _t := tok1; clear tok1 _t; go_at_call 79; refine (within_any 0 100000 [me, lo] _ (by assumption) _ _ _ (IRow.new' _ 3 [me, lo] (by simp) _ (by simp) _ (by simp))).mono ?_; rintro e w1 ⟨rfl, hg⟩; have hg2 := Gr.tr (Gr.al _ _) hg; replace gg := gg.tr hg2; replace hb := hb.keep hg2; obtain ⟨q0, q1, q2, q3⟩ := hb.c4'; clear hg hg2) | (have _t := tok2; clear tok2 _t; go_at_call 79; refine (within_any 0 te [ba] _ (by assumption) _ _ _ (IRow.new' _ 3 [ba] (by simp) _ (by simp) _ (by simp))).mono ?_; rintro e w1 ⟨rfl, hg⟩; have hg2 := Gr.tr (Gr.al _ _) hg; replace gg := gg.tr hg2; replace hb := hb.keep hg2; obtain ⟨q0, q1, q2, q3⟩ := hb.c4'; clear hg hg2))
        go_ret
        exact ⟨rfl, gg⟩

theorem goodOff_any (off : Int) (d : Bool) (hd : inB 0 1000 [off] = d) (w : World) :
    Calls Try.prog 73 #[.int .i64 off] w fun e w' => e = .returned (.bool d) ∧ Gr w w' := by
  go_enter Try.func73, Try.ntmps73
  go_wp2_with (go_at_call 79; refine (within_any _ _ [_] _ hd _ _ _ (IRow.new' _ 3 [_] (by simp) _ (by simp) _ (by simp))).mono ?_; rintro e w1 ⟨rfl, hg⟩)
  go_ret
  exact ⟨rfl, (Gr.al _ _).tr hg⟩

theorem goodReadings_any (l : List Int) (d : Bool) (hd : inB 0 100000 l = d) (a : Option Addr) (cap : Nat) (w : World) (hr : IRow w a l) :
    Calls Try.prog 74 #[.slice a l.length cap] w fun e w' => e = .returned (.bool d) ∧ Gr w w' := by
  go_enter Try.func74, Try.ntmps74
  go_wp2_with (go_at_call 79; refine (within_any _ _ l _ hd _ _ _ hr).mono ?_; rintro e w1 ⟨rfl, hg⟩)
  go_ret
  exact ⟨rfl, hg⟩

/-- How strong a box is with a true edge and a true caliper. -/
def strongB (ar ru edge cal : Int) : Int := edge * rootL (cal * ar) * ru / 100000

theorem rootL_small {n : Int} (h : 0 ≤ n) (h1 : n ≤ 200000000) : 0 ≤ rootL n ∧ rootL n ≤ 15000 := by
  obtain ⟨a, b, c⟩ := rootL_spec h
  refine ⟨a, ?_⟩
  rcases Int.lt_or_le 15000 (rootL n) with h2 | h2
  · have : (15001 : Int) * 15001 ≤ rootL n * rootL n := Int.mul_le_mul (by omega) (by omega) (by omega) a
    omega
  · exact h2

set_option maxRecDepth 100000 in
set_option maxHeartbeats 2000000 in
theorem kstrength_any (el eh cl ch ar ru edge cal : Int) (a0 : 1 ≤ ar) (a1 : ar ≤ 20000) (u0 : 1 ≤ ru) (u1 : ru ≤ 1000) (e0 : 0 ≤ edge) (e1 : edge ≤ 100000) (c0 : 1 ≤ cal) (c1 : cal ≤ 10000) (w : World) :
    Calls Try.prog 84 #[.agg #[.int .i64 el, .int .i64 eh, .int .i64 cl, .int .i64 ch, .int .i64 ar, .int .i64 ru], .int .i64 edge, .int .i64 cal] w fun e w' => e = .returned (.int .i64 (strongB ar ru edge cal)) ∧ Gr w w' := by
  have m0 : 1 * 1 ≤ cal * ar := Int.mul_le_mul (by omega) (by omega) (by omega) (by omega)
  have m1 : cal * ar ≤ 10000 * 20000 := Int.mul_le_mul (by omega) (by omega) (by omega) (by omega)
  have m2 : 1 ≤ cal * ar := by omega
  have m3 : cal * ar ≤ 200000000 := by omega
  obtain ⟨r0, r1⟩ := rootL_small (show 0 ≤ cal * ar by omega) m3
  have k0 : 0 ≤ edge * rootL (cal * ar) := Int.mul_nonneg e0 r0
  have k1 : edge * rootL (cal * ar) ≤ 100000 * 15000 := Int.mul_le_mul e1 r1 r0 (by omega)
  have k2 : 0 ≤ edge * rootL (cal * ar) * ru := Int.mul_nonneg k0 (by omega)
  have k3 : edge * rootL (cal * ar) * ru ≤ 1500000000 * 1000 := Int.mul_le_mul (by omega) u1 (by omega) (by omega)
  have v0 : IntKind.i64.wrap (cal * ar) = cal * ar := IntWalk.i64_in _ (by omega)
  have v1 : IntKind.i64.wrap (edge * rootL (cal * ar)) = edge * rootL (cal * ar) := IntWalk.i64_in _ (by omega)
  have v2 : IntKind.i64.wrap (edge * rootL (cal * ar) * ru) = edge * rootL (cal * ar) * ru := IntWalk.i64_in _ (by omega)
  have hd : (edge * rootL (cal * ar) * ru).tdiv 100000 = edge * rootL (cal * ar) * ru / 100000 := Int.tdiv_eq_ediv_of_nonneg k2
  have k4 : 0 ≤ edge * rootL (cal * ar) * ru / 100000 := by omega
  have k5 : edge * rootL (cal * ar) * ru / 100000 ≤ 1500000000000 := by omega
  have v3 : IntKind.i64.wrap (edge * rootL (cal * ar) * ru / 100000) = edge * rootL (cal * ar) * ru / 100000 := IntWalk.i64_in _ (by omega)
  have HE := Lib.hid (show edge * rootL (cal * ar) * ru / 100000 = strongB ar ru edge cal from rfl)
  clear m0 m1 k0 k1 k2 k3
  have hb := Box.new w [.int .i64 el, .int .i64 eh, .int .i64 cl, .int .i64 ch, .int .i64 ar, .int .i64 ru] 47 w.heap.size rfl
  have gg := Gr.al w (.cells #[.int .i64 el, .int .i64 eh, .int .i64 cl, .int .i64 ch, .int .i64 ar, .int .i64 ru] 47)
  go_enter Try.func84, Try.ntmps84
  go_upto_region 1 with fail
  refine wp_abs (fun W => Gr w W ∧ Box W w.heap.size [.int .i64 el, .int .i64 eh, .int .i64 cl, .int .i64 ch, .int .i64 ar, .int .i64 ru]) ⟨gg, hb⟩ ?_
  clear gg hb
  rintro W ⟨gg, hb⟩
  have gX := Gr.dr W
  obtain ⟨_, _, _, _, q4, q5⟩ := (hb.keep gX).c6'
  go_region_held3 (fun w' => w'.cell? ⟨w.heap.size, 4, none⟩ = some (.int .i64 ar) ∧ w'.cell? ⟨w.heap.size, 5, none⟩ = some (.int .i64 ru)) (first | exact ⟨q4, q5⟩ | go_keep) (first
    | (go_at_call 119; (refine (root_any (cal * ar) m2 m3 _).mono ?_); rintro e w2 ⟨rfl, hy⟩; replace gX := gX.tr hy; (obtain ⟨_, _, _, _, q4, q5⟩ := (hb.keep gX).c6')))
  all_goals
    clear q4 q5 v0 v1 v2 hd
    go_wp2
    go_ret
    exact ⟨ret_int HE.out, gg.tr gX⟩

end Go.Proofs.Ytcdilmagcdbogaa

namespace Go.Proofs.Ytcdilmagcdbogaa
set_option linter.unusedVariables false
set_option linter.unusedSimpArgs false
open Go.RowKit

theorem boxOk_iff {el eh cl ch ar ru : Int} (h : boxOk el eh cl ch ar ru = true) : (0 ≤ el ∧ el ≤ eh ∧ eh ≤ 100000) ∧ (1 ≤ cl ∧ cl ≤ ch ∧ ch ≤ 10000) ∧ (1 ≤ ar ∧ ar ≤ 20000) ∧ 1 ≤ ru ∧ ru ≤ 1000 := by
  simp [boxOk, okSpan, inB, in1] at h
  omega

set_option maxRecDepth 100000 in
set_option maxHeartbeats 2000000 in
theorem crushStrength_err (el eh cl ch ar ru : Int) (h : boxOk el eh cl ch ar ru = false) (w : World) :
    Calls Try.prog 31 #[.agg #[.int .i64 el, .int .i64 eh, .int .i64 cl, .int .i64 ch, .int .i64 ar, .int .i64 ru]] w fun e w' => e = .returned (.tuple #[.agg #[.int .i64 0, .int .i64 0], .int .i64 2]) ∧ Gr w w' := by
  have gg := (Gr.al w (.cells #[.int .i64 el, .int .i64 eh, .int .i64 cl, .int .i64 ch, .int .i64 ar, .int .i64 ru] 47)).tr (Gr.al _ (.cells #[.int .i64 0, .int .i64 0] 45))
  have hb := (Box.new w [.int .i64 el, .int .i64 eh, .int .i64 cl, .int .i64 ch, .int .i64 ar, .int .i64 ru] 47 w.heap.size rfl).keep (Gr.al _ (.cells #[.int .i64 0, .int .i64 0] 45))
  have ob := Own.new (w.alloc (.cells #[.int .i64 el, .int .i64 eh, .int .i64 cl, .int .i64 ch, .int .i64 ar, .int .i64 ru] 47)) [.int .i64 0, .int .i64 0] 45 (w.heap.size + 1) (by simp)
  obtain ⟨q0, q1, q2, q3, q4, q5⟩ := hb.c6'
  go_enter Try.func31, Try.ntmps31
  go_wp2_with fail
  refine (goodBox_any el eh cl ch ar ru _).mono ?_
  rintro e w1 ⟨rfl, hx⟩
  rw [h]
  have ob1 := ob.keep hx
  obtain ⟨u0, u1⟩ := ob1.1.c2
  have z0 := ob1.2 0
  have z1 := ob1.2 1
  go_wp2
  have o1 := ((ob1.set (i := 0) (v := .int .i64 0) (by simp)).set (i := 1) (v := .int .i64 0) (by simp)).1.c2
  obtain ⟨o10, o11⟩ := o1
  refine bodyPost_ret (v := .tuple #[.agg #[.int .i64 0, .int .i64 0], .int .i64 2]) (by simp [results, Try.results31, go_sem, o10, o11]) rfl ⟨rfl, ?_⟩
  exact ((gg.tr hx).setCell (by simp) _).setCell (by simp) _

set_option maxRecDepth 100000 in
set_option maxHeartbeats 2000000 in
theorem crushStrength_ok (el eh cl ch ar ru : Int) (h : boxOk el eh cl ch ar ru = true) (w : World) :
    Calls Try.prog 31 #[.agg #[.int .i64 el, .int .i64 eh, .int .i64 cl, .int .i64 ch, .int .i64 ar, .int .i64 ru]] w fun e w' => e = .returned (.tuple #[.agg #[.int .i64 (strongB ar ru el cl), .int .i64 (strongB ar ru eh ch)], .int .i64 0]) ∧ Gr w w' := by
  have gg := (Gr.al w (.cells #[.int .i64 el, .int .i64 eh, .int .i64 cl, .int .i64 ch, .int .i64 ar, .int .i64 ru] 47)).tr (Gr.al _ (.cells #[.int .i64 0, .int .i64 0] 45))
  have hb := (Box.new w [.int .i64 el, .int .i64 eh, .int .i64 cl, .int .i64 ch, .int .i64 ar, .int .i64 ru] 47 w.heap.size rfl).keep (Gr.al _ (.cells #[.int .i64 0, .int .i64 0] 45))
  have ob := Own.new (w.alloc (.cells #[.int .i64 el, .int .i64 eh, .int .i64 cl, .int .i64 ch, .int .i64 ar, .int .i64 ru] 47)) [.int .i64 0, .int .i64 0] 45 (w.heap.size + 1) (by simp)
  obtain ⟨q0, q1, q2, q3, q4, q5⟩ := hb.c6'
  obtain ⟨⟨x0, x1, x2⟩, ⟨x3, x4, x5⟩, ⟨x6, x7⟩, x8, x9⟩ := boxOk_iff h
  go_enter Try.func31, Try.ntmps31
  go_wp2_with fail
  refine (goodBox_any el eh cl ch ar ru _).mono ?_
  rintro e w1 ⟨rfl, hx⟩
  rw [h]
  clear h q0 q1 q2 q3 q4 q5
  go_upto_region 1 with fail
  refine wp_abs (fun W => Gr w W ∧ Box W w.heap.size [.int .i64 el, .int .i64 eh, .int .i64 cl, .int .i64 ch, .int .i64 ar, .int .i64 ru] ∧ Own W (w.heap.size + 1) [.int .i64 0, .int .i64 0]) ⟨gg.tr hx, hb.keep hx, ob.keep hx⟩ ?_
  clear gg hb ob hx
  rintro W ⟨gg, hb, ob⟩
  have gd := Gr.dr W
  obtain ⟨d0, d1, d2, d3, d4, d5⟩ := (hb.keep gd).c6'
  have tok1 : True := trivial
  go_region_held3 (fun w' => w'.cell? ⟨w.heap.size, 0, none⟩ = some (.int .i64 el) ∧ w'.cell? ⟨w.heap.size, 1, none⟩ = some (.int .i64 eh) ∧ w'.cell? ⟨w.heap.size, 2, none⟩ = some (.int .i64 cl) ∧ w'.cell? ⟨w.heap.size, 3, none⟩ = some (.int .i64 ch) ∧ w'.cell? ⟨w.heap.size, 4, none⟩ = some (.int .i64 ar) ∧ w'.cell? ⟨w.heap.size, 5, none⟩ = some (.int .i64 ru)) (first | exact ⟨d0, d1, d2, d3, d4, d5⟩ | exact ⟨e0, e1, e2, e3, e4, e5⟩ | exact ⟨f0, f1, f2, f3, f4, f5⟩ | go_keep) (first
    | (go_at_call 84; have _t := tok1; (refine (kstrength_any el eh cl ch ar ru el cl x6 x7 x8 x9 x0 (by omega) x3 (by omega) _).mono ?_); clear tok1 _t; rintro e w2 ⟨rfl, hx⟩; (obtain ⟨e0, e1, e2, e3, e4, e5⟩ := (hb.keep (gd.tr hx)).c6'))
    | (go_at_call 84; (refine (kstrength_any el eh cl ch ar ru eh ch x6 x7 x8 x9 (by omega) x2 (by omega) x5 _).mono ?_); rintro e w3 ⟨rfl, hy⟩; (obtain ⟨f0, f1, f2, f3, f4, f5⟩ := (hb.keep (gd.tr (hx.tr hy))).c6'); have ob3 := ob.keep (gd.tr (hx.tr hy)); (obtain ⟨u0, u1⟩ := ob3.1.c2); have z0 := ob3.2 0; have z1 := ob3.2 1))
  go_wp2
  have o1 := (((ob.keep (gd.tr (hx.tr hy))).set (i := 0) (v := .int .i64 (strongB ar ru el cl)) (by simp)).set (i := 1) (v := .int .i64 (strongB ar ru eh ch)) (by simp)).1.c2
  obtain ⟨o10, o11⟩ := o1
  refine bodyPost_ret (v := .tuple #[.agg #[.int .i64 (strongB ar ru el cl), .int .i64 (strongB ar ru eh ch)], .int .i64 0]) (by simp [results, Try.results31, go_sem, o10, o11]) rfl ⟨rfl, ?_⟩
  exact ((gg.tr (gd.tr (hx.tr hy))).setCell (by simp) _).setCell (by simp) _

end Go.Proofs.Ytcdilmagcdbogaa

namespace Go.Proofs.Ytcdilmagcdbogaa
set_option linter.unusedVariables false
set_option linter.unusedSimpArgs false
open Go.RowKit

/-- The error of a rule, readings, and a gauge. -/
def ruleL (te me lo ba off : Int) (l : List Int) : Int :=
  if ruleOk te me lo ba = false then 2 else if inB 0 1000 [off] = false then 3 else if te < (l.length : Int) then 5 else if inB 0 100000 l = false then 4 else 0

set_option maxRecDepth 100000 in
set_option maxHeartbeats 2000000 in
theorem rule_any (te me lo ba off : Int) (l : List Int) (a : Option Addr) (cap : Nat) (w : World) (hr : IRow w a l) :
    Calls Try.prog 20 #[.agg #[.int .i64 te, .int .i64 me, .int .i64 lo, .int .i64 ba], .slice a l.length cap, .int .i64 off] w fun e w' => e = .returned (.int .i64 (ruleL te me lo ba off l)) ∧ Gr w w' := by
  have gg := Gr.al w (.cells #[.int .i64 te, .int .i64 me, .int .i64 lo, .int .i64 ba] 23)
  have hb := Box.new w [.int .i64 te, .int .i64 me, .int .i64 lo, .int .i64 ba] 23 w.heap.size rfl
  have r1 := hr.grow gg
  obtain ⟨q0, q1, q2, q3⟩ := hb.c4'
  cases c0 : ruleOk te me lo ba with
  | false =>
    have E : ruleL te me lo ba off l = 2 := by simp [ruleL, c0]
    rw [E]
    go_enter Try.func20, Try.ntmps20
    go_wp2_with (first | (go_at_call 72; refine (goodRule_any te me lo ba _).mono ?_; rintro e w1 ⟨rfl, hx⟩; rw [c0]; replace gg := gg.tr hx; replace hb := hb.keep hx; replace r1 := r1.grow hx; clear hx q0 q1 q2 q3; obtain ⟨q0, q1, q2, q3⟩ := hb.c4') | (go_at_call 73; refine (goodOff_any off _ c1 _).mono ?_; rintro e w1 ⟨rfl, hx⟩; replace gg := gg.tr hx; replace hb := hb.keep hx; replace r1 := r1.grow hx; clear hx q0 q1 q2 q3; obtain ⟨q0, q1, q2, q3⟩ := hb.c4') | (go_at_call 74; refine (goodReadings_any l _ c3 _ _ _ r1).mono ?_; rintro e w1 ⟨rfl, hx⟩; replace gg := gg.tr hx; replace hb := hb.keep hx; replace r1 := r1.grow hx; clear hx q0 q1 q2 q3; obtain ⟨q0, q1, q2, q3⟩ := hb.c4'))
    go_ret
    exact ⟨rfl, gg⟩
  | true =>
    cases c1 : inB 0 1000 [off] with
    | false =>
      have E : ruleL te me lo ba off l = 3 := by simp [ruleL, c0, c1]
      rw [E]
      go_enter Try.func20, Try.ntmps20
      go_wp2_with (first | (go_at_call 72; refine (goodRule_any te me lo ba _).mono ?_; rintro e w1 ⟨rfl, hx⟩; rw [c0]; replace gg := gg.tr hx; replace hb := hb.keep hx; replace r1 := r1.grow hx; clear hx q0 q1 q2 q3; obtain ⟨q0, q1, q2, q3⟩ := hb.c4') | (go_at_call 73; refine (goodOff_any off _ c1 _).mono ?_; rintro e w1 ⟨rfl, hx⟩; replace gg := gg.tr hx; replace hb := hb.keep hx; replace r1 := r1.grow hx; clear hx q0 q1 q2 q3; obtain ⟨q0, q1, q2, q3⟩ := hb.c4') | (go_at_call 74; refine (goodReadings_any l _ c3 _ _ _ r1).mono ?_; rintro e w1 ⟨rfl, hx⟩; replace gg := gg.tr hx; replace hb := hb.keep hx; replace r1 := r1.grow hx; clear hx q0 q1 q2 q3; obtain ⟨q0, q1, q2, q3⟩ := hb.c4'))
      go_ret
      exact ⟨rfl, gg⟩
    | true =>
      by_cases c2 : te < (l.length : Int)
      · have c2d : decide (te < (l.length : Int)) = true := by simpa using c2
        have E : ruleL te me lo ba off l = 5 := by simp [ruleL, c0, c1, c2]
        rw [E]
        go_enter Try.func20, Try.ntmps20
        go_wp2_with (first | (go_at_call 72; refine (goodRule_any te me lo ba _).mono ?_; rintro e w1 ⟨rfl, hx⟩; rw [c0]; replace gg := gg.tr hx; replace hb := hb.keep hx; replace r1 := r1.grow hx; clear hx q0 q1 q2 q3; obtain ⟨q0, q1, q2, q3⟩ := hb.c4') | (go_at_call 73; refine (goodOff_any off _ c1 _).mono ?_; rintro e w1 ⟨rfl, hx⟩; replace gg := gg.tr hx; replace hb := hb.keep hx; replace r1 := r1.grow hx; clear hx q0 q1 q2 q3; obtain ⟨q0, q1, q2, q3⟩ := hb.c4') | (go_at_call 74; refine (goodReadings_any l _ c3 _ _ _ r1).mono ?_; rintro e w1 ⟨rfl, hx⟩; replace gg := gg.tr hx; replace hb := hb.keep hx; replace r1 := r1.grow hx; clear hx q0 q1 q2 q3; obtain ⟨q0, q1, q2, q3⟩ := hb.c4'))
        go_ret
        exact ⟨rfl, gg⟩
      · have c2d : decide (te < (l.length : Int)) = false := by simpa using c2
        cases c3 : inB 0 100000 l with
        | false =>
          have E : ruleL te me lo ba off l = 4 := by simp [ruleL, c0, c1, c2, c3]
          rw [E]
          go_enter Try.func20, Try.ntmps20
          go_wp2_with (first | (go_at_call 72; refine (goodRule_any te me lo ba _).mono ?_; rintro e w1 ⟨rfl, hx⟩; rw [c0]; replace gg := gg.tr hx; replace hb := hb.keep hx; replace r1 := r1.grow hx; clear hx q0 q1 q2 q3; obtain ⟨q0, q1, q2, q3⟩ := hb.c4') | (go_at_call 73; refine (goodOff_any off _ c1 _).mono ?_; rintro e w1 ⟨rfl, hx⟩; replace gg := gg.tr hx; replace hb := hb.keep hx; replace r1 := r1.grow hx; clear hx q0 q1 q2 q3; obtain ⟨q0, q1, q2, q3⟩ := hb.c4') | (go_at_call 74; refine (goodReadings_any l _ c3 _ _ _ r1).mono ?_; rintro e w1 ⟨rfl, hx⟩; replace gg := gg.tr hx; replace hb := hb.keep hx; replace r1 := r1.grow hx; clear hx q0 q1 q2 q3; obtain ⟨q0, q1, q2, q3⟩ := hb.c4'))
          go_ret
          exact ⟨rfl, gg⟩
        | true =>
          have E : ruleL te me lo ba off l = 0 := by simp [ruleL, c0, c1, c2, c3]
          rw [E]
          go_enter Try.func20, Try.ntmps20
          go_wp2_with (first | (go_at_call 72; refine (goodRule_any te me lo ba _).mono ?_; rintro e w1 ⟨rfl, hx⟩; rw [c0]; replace gg := gg.tr hx; replace hb := hb.keep hx; replace r1 := r1.grow hx; clear hx q0 q1 q2 q3; obtain ⟨q0, q1, q2, q3⟩ := hb.c4') | (go_at_call 73; refine (goodOff_any off _ c1 _).mono ?_; rintro e w1 ⟨rfl, hx⟩; replace gg := gg.tr hx; replace hb := hb.keep hx; replace r1 := r1.grow hx; clear hx q0 q1 q2 q3; obtain ⟨q0, q1, q2, q3⟩ := hb.c4') | (go_at_call 74; refine (goodReadings_any l _ c3 _ _ _ r1).mono ?_; rintro e w1 ⟨rfl, hx⟩; replace gg := gg.tr hx; replace hb := hb.keep hx; replace r1 := r1.grow hx; clear hx q0 q1 q2 q3; obtain ⟨q0, q1, q2, q3⟩ := hb.c4'))
          go_ret
          exact ⟨rfl, gg⟩

end Go.Proofs.Ytcdilmagcdbogaa

namespace Go.Proofs.Ytcdilmagcdbogaa
set_option linter.unusedVariables false
set_option linter.unusedSimpArgs false
open Go.RowKit

set_option maxRecDepth 100000 in
set_option maxHeartbeats 2000000 in
theorem truth_any (off x : Int) (o0 : 0 ≤ off) (o1 : off ≤ 1000) (x0 : 0 ≤ x) (x1 : x ≤ 100000) (w : World) :
    Calls Try.prog 114 #[.agg #[.int .i64 off], .int .i64 x] w fun e w' => e = .returned (.agg #[.int .i64 (max 0 (x - off)), .int .i64 (min 100000 (x + off))]) ∧ Gr w w' := by
  have v0 : IntKind.i64.wrap (x - off) = x - off := IntWalk.i64_in _ (by omega)
  have v1 : IntKind.i64.wrap (x + off) = x + off := IntWalk.i64_in _ (by omega)
  have gg := (Gr.al w (.cells #[.int .i64 off] 145)).tr (Gr.al _ (.cells #[.int .i64 0, .int .i64 0] 45))
  have hb := (Box.new w [.int .i64 off] 145 w.heap.size rfl).keep (Gr.al _ (.cells #[.int .i64 0, .int .i64 0] 45))
  have ob := Own.new (w.alloc (.cells #[.int .i64 off] 145)) [.int .i64 0, .int .i64 0] 45 (w.heap.size + 1) (by simp)
  have q0 := hb.c1
  obtain ⟨u0, u1⟩ := ob.1.c2
  have z0 := ob.2 0
  have z1 := ob.2 1
  go_enter Try.func114, Try.ntmps114
  go_wp2
  have o1 := ((ob.set (i := 0) (v := .int .i64 (max 0 (x - off))) (by simp)).set (i := 1) (v := .int .i64 (min 100000 (x + off))) (by simp)).1.c2
  obtain ⟨o10, o11⟩ := o1
  refine bodyPost_ret (v := .agg #[.int .i64 (max 0 (x - off)), .int .i64 (min 100000 (x + off))]) (by simp [results, Try.results114, go_sem, o10, o11]) rfl ⟨rfl, ?_⟩
  exact (Gr.al _ _).tr (Gr.al _ _)

set_option maxRecDepth 100000 in
set_option maxHeartbeats 2000000 in
theorem bears_any (sl sh wl wh keep : Int) (s0 : 0 ≤ sl) (s1 : sl ≤ 20000000) (k0 : 0 ≤ keep) (k1 : keep ≤ 1000) (w : World) :
    Calls Try.prog 123 #[.agg #[.int .i64 sl, .int .i64 sh, .int .i64 wl, .int .i64 wh], .int .i64 keep] w fun e w' => e = .returned (.int .i64 (sl * keep / 1000)) ∧ Gr w w' := by
  have m0 : 0 ≤ sl * keep := Int.mul_nonneg s0 k0
  have m1 : sl * keep ≤ 20000000 * 1000 := Int.mul_le_mul s1 k1 k0 (by omega)
  have v0 : IntKind.i64.wrap (sl * keep) = sl * keep := IntWalk.i64_in _ (by omega)
  have hd : (sl * keep).tdiv 1000 = sl * keep / 1000 := Int.tdiv_eq_ediv_of_nonneg m0
  have v1 : IntKind.i64.wrap (sl * keep / 1000) = sl * keep / 1000 := IntWalk.i64_in _ (by omega)
  have gg := Gr.al w (.cells #[.int .i64 sl, .int .i64 sh, .int .i64 wl, .int .i64 wh] 70)
  have hb := Box.new w [.int .i64 sl, .int .i64 sh, .int .i64 wl, .int .i64 wh] 70 w.heap.size rfl
  obtain ⟨q0, q1, q2, q3⟩ := hb.c4'
  go_enter Try.func123, Try.ntmps123
  go_wp2
  go_ret
  exact ⟨rfl, gg⟩

end Go.Proofs.Ytcdilmagcdbogaa

namespace Go.Proofs.Ytcdilmagcdbogaa
set_option linter.unusedVariables false
set_option linter.unusedSimpArgs false
open Go.RowKit

/-- A step of a table. -/
structure Stp where
  day : Int
  keep : Int

def encT (s : Stp) : List Value := [.int .i64 s.day, .int .i64 s.keep]

abbrev TRow := RowOf 2 encT

theorem TRow.get {w : World} {a : Option Addr} {l : List Stp} (h : TRow w a l) {j : Nat} {x : Stp} (hx : l[j]? = some x) :
    ∃ b off, a = some ⟨b, off, none⟩ ∧ b < w.heap.size ∧ w.cell? ⟨b, off + j * 2, none⟩ = some (.int .i64 x.day) ∧ w.cell? ⟨b, off + j * 2 + 1, none⟩ = some (.int .i64 x.keep) := by
  obtain ⟨b, off, ha, hb, hc⟩ := h.2 j x hx
  exact ⟨b, off, ha, hb, hc 0 _ rfl, hc 1 _ rfl⟩

/-- A box with its load. -/
structure Ld where
  sl : Int
  sh : Int
  wl : Int
  wh : Int

def encL (s : Ld) : List Value := [.int .i64 s.sl, .int .i64 s.sh, .int .i64 s.wl, .int .i64 s.wh]

abbrev LRow := RowOf 4 encL

theorem LRow.get {w : World} {a : Option Addr} {l : List Ld} (h : LRow w a l) {j : Nat} {x : Ld} (hx : l[j]? = some x) :
    ∃ b off, a = some ⟨b, off, none⟩ ∧ b < w.heap.size ∧ w.cell? ⟨b, off + j * 4, none⟩ = some (.int .i64 x.sl) ∧ w.cell? ⟨b, off + j * 4 + 1, none⟩ = some (.int .i64 x.sh) ∧ w.cell? ⟨b, off + j * 4 + 2, none⟩ = some (.int .i64 x.wl) ∧ w.cell? ⟨b, off + j * 4 + 3, none⟩ = some (.int .i64 x.wh) := by
  obtain ⟨b, off, ha, hb, hc⟩ := h.2 j x hx
  exact ⟨b, off, ha, hb, hc 0 _ rfl, hc 1 _ rfl, hc 2 _ rfl, hc 3 _ rfl⟩

theorem callUntil (args : Array Value) (W : World) : (callFunc 122 args).run Try.prog W = .ok (.enter 122 args) W := by kernel_rfl

/-- Whether the step at a place comes after a day. -/
def later (l : List Stp) (days i : Int) : Bool := match l[i.toNat]? with
  | some s => decide (days < s.day)
  | none => true

set_option maxRecDepth 100000 in
set_option maxHeartbeats 1000000 in
theorem untilClosure (l : List Stp) (days i : Int) (i0 : 0 ≤ i) (i1 : i < (l.length : Int)) (a : Option Addr) (cap b c : Nat) (W : World) (hr : TRow W a l) (hb : W.cell? ⟨b, 0, none⟩ = some (.slice a l.length cap)) (hc : W.cell? ⟨c, 0, none⟩ = some (.int .i64 days)) :
    Calls Try.prog 122 #[.int .i64 i, .pointer (some ⟨b, 0, none⟩), .pointer (some ⟨c, 0, none⟩)] W fun e W' => e = .returned (.bool (later l days i)) ∧ Gr W W' := by
  obtain ⟨j, rfl⟩ : ∃ j : Nat, i = (j : Int) := ⟨i.toNat, by omega⟩
  have hj : j < l.length := by omega
  obtain ⟨s, hs⟩ : ∃ s, l[j]? = some s := ⟨l[j], by simp [hj]⟩
  obtain ⟨d, off, rfl, hd, h0, h1⟩ := TRow.get hr hs
  have E : later l days (j : Int) = decide (days < s.day) := by simp [later, hs]
  rw [E]
  clear E hr
  go_enter Try.func122, Try.ntmps122
  go_upto_region 1 with fail
  go_quiet (fail)
  go_wp2
  go_ret
  exact ⟨rfl, Below.trans (Below.refl _ _) ⟨rfl, rfl, rfl, Nat.le_refl _, fun _ _ => rfl⟩⟩

/-- The steps of a table up to a day. -/
def untilL (l : List Stp) (days : Int) : List Stp := l.takeWhile (fun s => decide (s.day ≤ days))

theorem untilL_is (l : List Stp) (days : Int) : ∀ r : Nat, r ≤ l.length → (∀ i s, i < r → l[i]? = some s → s.day ≤ days) → (∀ i s, r ≤ i → l[i]? = some s → days < s.day) → (untilL l days).length = r := by
  induction l with
  | nil => intro r h _ _; simp at h; simp [untilL, h]
  | cons x t ih =>
    intro r h h1 h2
    cases r with
    | zero =>
      have := h2 0 x (Nat.le_refl _) rfl
      simp [untilL, this, show ¬ x.day ≤ days by omega]
    | succ r =>
      have h0 := h1 0 x (by omega) rfl
      have := ih r (by simpa using h) (fun i s hi hs => h1 (i + 1) s (by omega) (by simpa using hs)) (fun i s hi hs => h2 (i + 1) s (by omega) (by simpa using hs))
      simp only [untilL] at this
      simp [untilL, h0, this]

theorem slice_head (a : Option Addr) (c s : Nat) : (if c = 0 then a else a.map (·.add (0 * s))) = a := by
  split
  · rfl
  · cases a <;> simp [Addr.add]

set_option maxRecDepth 100000 in
set_option maxHeartbeats 1000000 in
theorem until_any (l : List Stp) (days : Int) (hn : l.length ≤ 1000000) (hs : l.Pairwise (fun x y => x.day ≤ y.day)) (a : Option Addr) (cap : Nat) (hc : l.length ≤ cap) (w : World) (hr : TRow w a l) :
    Calls Try.prog 89 #[.slice a l.length cap, .int .i64 days] w fun e w' => e = .returned (.slice a (untilL l days).length cap) ∧ Gr w w' := by
  have g1 := Gr.al w (.cells #[.slice a l.length cap] 54)
  have g2 := Gr.al (w.alloc (.cells #[.slice a l.length cap] 54)) (.cells #[.int .i64 days] 3)
  have gg := g1.tr g2
  have hb := (Box.new w [.slice a l.length cap] 54 w.heap.size rfl).keep g2
  have hd := Box.new (w.alloc (.cells #[.slice a l.length cap] 54)) [.int .i64 days] 3 (w.heap.size + 1) (by simp)
  have r1 := hr.grow gg
  have hm : ∀ x y, 0 ≤ x → x ≤ y → y < (l.length : Int) → later l days x = true → later l days y = true := by
    intro x y x0 xy yn h
    have hx : x.toNat < l.length := by omega
    have hy : y.toNat < l.length := by omega
    simp only [later, List.getElem?_eq_getElem hx, List.getElem?_eq_getElem hy, decide_eq_true_eq] at h ⊢
    rcases Nat.lt_or_ge x.toNat y.toNat with h1 | h1
    · have := List.pairwise_iff_getElem.1 hs x.toNat y.toNat hx hy h1
      omega
    · have e : x.toNat = y.toNat := by omega
      simp only [e] at h
      exact h
  have HR := Lib.hid r1
  have HM := Lib.hid hm
  clear r1 hm hr hs
  go_enter Try.func89, Try.ntmps89
  go_upto_region 1 with fail
  refine wp_abs (fun W => Gr w W ∧ Box W w.heap.size [.slice a l.length cap] ∧ Box W (w.heap.size + 1) [.int .i64 days] ∧ TRow W a l) ⟨gg, hb, hd, HR.out⟩ ?_
  clear gg hb hd g1 g2 HR
  rintro W ⟨gg, hb, hd, hr⟩
  have HR := Lib.hid hr
  have gX := Gr.dr W
  have q0 := (hb.keep gX).c1
  clear hr
  go_region_held3 (fun w' => w'.cell? ⟨w.heap.size, 0, none⟩ = some (.slice a l.length cap)) (first | exact q0 | go_keep) (first
    | (go_at_call 96; (refine (search2 (l.length : Int) (by omega) (by omega) (later l days) HM.out 122 (.pointer (some ⟨w.heap.size, 0, none⟩)) (.pointer (some ⟨w.heap.size + 1, 0, none⟩)) _ callUntil (fun h V hV h0 h1 => untilClosure l days h h0 h1 a cap _ _ V (HR.out.grow (gX.tr hV)) (hb.keep (gX.tr hV)).c1 (hd.keep (gX.tr hV)).c1)).mono ?_); rintro e w2 ⟨r, rfl, r0, r1, hlo, hhi, hy⟩; (have rc : r ≤ (cap : Int) := by omega); replace gX := gX.tr hy; have q0 := (hb.keep gX).c1))
  all_goals
    clear q0
    go_wp2
    have er : (untilL l days).length = r.toNat := by
      refine untilL_is l days r.toNat (by omega) (fun i s hi hs => ?_) (fun i s hi hs => ?_)
      · have := hlo (i : Int) (by omega) (by omega)
        simp [later, hs] at this
        omega
      · have hl : i < l.length := by
          rcases Nat.lt_or_ge i l.length with h | h
          · exact h
          · rw [List.getElem?_eq_none h] at hs
            simp at hs
        have := hhi (i : Int) (by omega) (by omega)
        simp [later, hs] at this
        omega
    rw [er]
    go_ret
    exact ⟨rfl, gg.tr gX⟩

/-- What boxes keep on a day. -/
def lastL (l : List Stp) (days : Int) : Int := match l[(untilL l days).length - 1]? with
  | some s => s.keep
  | none => 0

set_option maxRecDepth 100000 in
set_option maxHeartbeats 1000000 in
theorem last_any (l : List Stp) (days : Int) (hn : l.length ≤ 1000000) (hs : l.Pairwise (fun x y => x.day ≤ y.day)) (h0 : 0 < (untilL l days).length) (h1 : (untilL l days).length ≤ l.length) (a : Option Addr) (cap : Nat) (hc : l.length ≤ cap) (w : World) (hr : TRow w a l) :
    Calls Try.prog 95 #[.slice a l.length cap, .int .i64 days] w fun e w' => e = .returned (.int .i64 (lastL l days)) ∧ Gr w w' := by
  obtain ⟨n, en⟩ : ∃ n, (untilL l days).length = n + 1 := ⟨(untilL l days).length - 1, by omega⟩
  obtain ⟨s, hs1⟩ : ∃ s, l[n]? = some s := ⟨l[n], by simp⟩
  have E : lastL l days = s.keep := by simp [lastL, en, hs1]
  rw [E]
  have U := Lib.hid (fun W hW => until_any l days hn hs a cap hc W hW)
  clear hs E
  go_enter Try.func95, Try.ntmps95
  go_wp2_with fail
  refine (U.out _ hr).mono ?_
  rintro e w1 ⟨rfl, hx⟩
  rw [en]
  obtain ⟨d, off, rfl, hd, q0, q1⟩ := TRow.get (hr.grow hx) hs1
  have wr : IntKind.i64.wrap (((n + 1 : Nat) : Int) - 1) = (n : Int) := by
    rw [IntWalk.i64_in _ (by omega)]
    omega
  go_wp2
  go_ret
  exact ⟨rfl, hx⟩

end Go.Proofs.Ytcdilmagcdbogaa

namespace Go.Proofs.Ytcdilmagcdbogaa
set_option linter.unusedVariables false
set_option linter.unusedSimpArgs false
open Go.RowKit

def okLd (x : Ld) : Bool := okSpan 0 20000000 x.sl x.sh && okSpan 0 100000 x.wl x.wh

def boxedL (most : Int) (l : List Ld) : Int := if most < (l.length : Int) then 5 else if l.all okLd = false then 2 else 0

set_option maxRecDepth 100000 in
set_option maxHeartbeats 2000000 in
theorem boxed_any (most : Int) (l : List Ld) (a : Option Addr) (cap : Nat) (w : World) (hr : LRow w a l) :
    Calls Try.prog 86 #[.slice a l.length cap, .int .i64 most] w fun e w' => e = .returned (.int .i64 (boxedL most l)) ∧ Gr w w' := by
  have hm := hr.1
  by_cases h5 : most < (l.length : Int)
  · have E : boxedL most l = 5 := by simp [boxedL, h5]
    have h5d : decide (most < (l.length : Int)) = true := by simpa using h5
    rw [E]
    go_enter Try.func86, Try.ntmps86
    go_wp2
    go_ret
    exact ⟨rfl, Below.refl _ _⟩
  have h5d : decide (most < (l.length : Int)) = false := by simpa using h5
  have HE := Lib.hid (show boxedL most l = if l.all okLd = false then 2 else 0 by simp [boxedL, h5])
  go_enter Try.func86, Try.ntmps86
  go_wp2
  go_loopw [13] (fun i wr => ∃ k : Nat, k ≤ l.length ∧ i = .int .i64 k ∧ (l.take k).all okLd = true ∧ Gr w wr) (fun i wr => l.length - (intOf i).toNat)
  case atStart => exact ⟨0, Nat.zero_le _, rfl, rfl, Below.refl _ _⟩
  case round =>
    obtain ⟨k, hk, rfl, hall, hG⟩ := hrel
    have Hall := Lib.hid hall
    clear hall h5 h5d
    by_cases hlt : k < l.length
    · obtain ⟨x, hx⟩ := get_of_lt hlt
      obtain ⟨b0, off, rfl, hb, hc0, hc1, hc2, hc3⟩ := LRow.get (hr.grow hG) hx
      have Hx := Lib.hid hx
      clear hx
      obtain ⟨sl, sh, wl, wh⟩ := x
      simp only at hc0 hc1 hc2 hc3
      have gg := Gr.al wr (.cells #[.int .i64 sl, .int .i64 sh, .int .i64 wl, .int .i64 wh] 70)
      have hb := Box.new wr [.int .i64 sl, .int .i64 sh, .int .i64 wl, .int .i64 wh] 70 wr.heap.size rfl
      cases c0 : okSpan 0 20000000 sl sh with
      | false =>
        have E : boxedL most l = 2 := by rw [HE.out, if_pos (not_all_of _ Hx.out (by simp [okLd, c0]))]
        have HX := Lib.hid E
        clear E
        have tok0 : True := trivial
        go_wp2_with (have _t := tok0; clear tok0 _t; go_at_call 118; refine (valid_any 0 20000000 sl sh _ c0 _ _ _ (SRow.new1 _ 45 _ _ _ (by simp))).mono ?_; rintro e w1 ⟨rfl, hg⟩; have hg2 := Gr.tr (Gr.al _ _) hg; replace gg := gg.tr hg2; clear hg hg2)
        go_ret
        exact ⟨ret_int HX.out.symm, hG.tr gg⟩
      | true =>
        cases c1 : okSpan 0 100000 wl wh with
        | false =>
          have E : boxedL most l = 2 := by rw [HE.out, if_pos (not_all_of _ Hx.out (by simp [okLd, c0, c1]))]
          have HX := Lib.hid E
          clear E
          have tok0 : True := trivial
          go_wp2_with (first | (have _t := tok0; clear tok0 _t; go_at_call 118; refine (valid_any 0 20000000 sl sh _ c0 _ _ _ (SRow.new1 _ 45 _ _ _ (by simp))).mono ?_; rintro e w1 ⟨rfl, hg⟩; have hg2 := Gr.tr (Gr.al _ _) hg; replace gg := gg.tr hg2; replace hb := hb.keep hg2; obtain ⟨q0, q1, q2, q3⟩ := hb.c4'; clear hg hg2) | (go_at_call 118; refine (valid_any 0 100000 wl wh _ c1 _ _ _ (SRow.new1 _ 45 _ _ _ (by simp))).mono ?_; rintro e w1 ⟨rfl, hg⟩; have hg2 := Gr.tr (Gr.al _ _) hg; replace gg := gg.tr hg2; clear hg hg2))
          go_ret
          exact ⟨ret_int HX.out.symm, hG.tr gg⟩
        | true =>
          have hp : okLd ⟨sl, sh, wl, wh⟩ = true := by simp [okLd, c0, c1]
          have Hp := Lib.hid hp
          clear hp
          have tok0 : True := trivial
          go_wp2_with (first | (have _t := tok0; clear tok0 _t; go_at_call 118; refine (valid_any 0 20000000 sl sh _ c0 _ _ _ (SRow.new1 _ 45 _ _ _ (by simp))).mono ?_; rintro e w1 ⟨rfl, hg⟩; have hg2 := Gr.tr (Gr.al _ _) hg; replace gg := gg.tr hg2; replace hb := hb.keep hg2; obtain ⟨q0, q1, q2, q3⟩ := hb.c4'; clear hg hg2) | (go_at_call 118; refine (valid_any 0 100000 wl wh _ c1 _ _ _ (SRow.new1 _ 45 _ _ _ (by simp))).mono ?_; rintro e w1 ⟨rfl, hg⟩; have hg2 := Gr.tr (Gr.al _ _) hg; replace gg := gg.tr hg2; clear hg hg2))
          go_roundw
          case rel => exact ⟨k + 1, by omega, by go_num, all_take_succ _ Hx.out Hall.out Hp.out, hG.tr gg⟩
          case measure => simp [intOf]; omega
    · have hf : boxedL most l = 0 := by
        have h := Hall.out
        rw [List.take_of_length_le (by omega)] at h
        rw [HE.out, h]
        rfl
      have Hf := Lib.hid hf
      clear hf
      go_wp2
      go_ret
      exact ⟨ret_int Hf.out.symm, hG⟩

end Go.Proofs.Ytcdilmagcdbogaa

namespace Go.Proofs.Ytcdilmagcdbogaa
set_option linter.unusedVariables false
set_option linter.unusedSimpArgs false
open Go.RowKit

/-- The steps of a table from one on, behind a step of (d, k). -/
def chainL (d k : Int) : List Stp → Bool
  | [] => true
  | s :: t => inB (d + 1) 10000 [s.day] && inB 0 k [s.keep] && chainL s.day s.keep t

def tableL (l : List Stp) : Bool := inB 1 10 [(l.length : Int)] && (match l with
  | [] => false
  | s :: _ => s.day == 0) && chainL (-1) 1000 l

set_option maxRecDepth 100000 in
set_option maxHeartbeats 2000000 in
theorem goodTable_any (l : List Stp) (a : Option Addr) (cap : Nat) (w : World) (hr : TRow w a l) :
    Calls Try.prog 121 #[.slice a l.length cap] w fun e w' => e = .returned (.bool (tableL l)) ∧ Gr w w' := by
  have hm := hr.1
  cases hn : inB 1 10 [(l.length : Int)] with
  | false =>
    have E : tableL l = false := by simp [tableL, hn]
    rw [E]
    go_enter Try.func121, Try.ntmps121
    go_wp2_with (go_at_call 79; refine (within_any 1 10 [(l.length : Int)] _ hn _ _ _ (IRow.new' _ 3 [(l.length : Int)] (by simp) _ (by simp) _ (by simp))).mono ?_; rintro e w1 ⟨rfl, hg⟩)
    go_ret
    exact ⟨rfl, (Gr.al _ _).tr hg⟩
  | true =>
    obtain ⟨s0, t0, rfl⟩ : ∃ s t, l = s :: t := by
      cases l with
      | nil => simp [inB, in1] at hn
      | cons s t => exact ⟨s, t, rfl⟩
    have ln : ((s0 :: t0).length : Int) ≤ 10 := by
      simp [inB, in1] at hn ⊢
      omega
    obtain ⟨l, el⟩ : ∃ l, l = s0 :: t0 := ⟨_, rfl⟩
    have h00 : l[0]? = some s0 := by rw [el]; rfl
    by_cases hz : s0.day = 0
    · have E0 : tableL l = chainL (-1) 1000 l := by rw [el]; simp only [tableL, hn, hz, beq_self_eq_true, Bool.true_and, Bool.and_true]
      have HE := Lib.hid E0
      rw [← el] at hr hn hm ln ⊢
      have l1 : 0 < l.length := by rw [el]; simp
      clear el E0
      obtain ⟨b0, off, rfl, hb, hc0, hc1⟩ := TRow.get hr h00
      rw [hz] at hc0
      simp only [Nat.zero_mul, Nat.add_zero] at hc0
      go_enter Try.func121, Try.ntmps121
      go_wp2_with (go_at_call 79; refine (within_any 1 10 [(l.length : Int)] _ hn _ _ _ (IRow.new' _ 3 [(l.length : Int)] (by simp) _ (by simp) _ (by simp))).mono ?_; rintro e w1 ⟨rfl, hg⟩; have g1 := Gr.tr (Gr.al _ _) hg; have hc9 := g1.keep hc0; clear hg)
      have sz := g1.size
      go_loopw [21] (fun i wr => ∃ k : Nat, ∃ d kk : Int, k ≤ l.length ∧ i = .int .i64 k ∧ Hid (chainL (-1) 1000 l = chainL d kk (l.drop k)) ∧ -1 ≤ d ∧ d ≤ 10000 ∧ Own wr w1.heap.size [.int .i64 d, .int .i64 kk] ∧ Gr w wr) (fun i wr => l.length - (intOf i).toNat)
      case atStart => exact ⟨0, -1, 1000, Nat.zero_le _, rfl, Lib.hid rfl, by omega, by omega, Own.new w1 _ 138 _ rfl, g1.tr (Gr.al _ _)⟩
      case round =>
        obtain ⟨k, d, kk, hk, rfl, Hch, d0, d1, ob, hG⟩ := hrel
        clear hc9
        by_cases hlt : k < l.length
        · obtain ⟨x, hx⟩ := get_of_lt hlt
          obtain ⟨b1, off1, e1, hb1, hx0, hx1⟩ := TRow.get (hr.grow hG) hx
          obtain ⟨rfl, rfl⟩ : b0 = b1 ∧ off = off1 := by simpa using e1
          have hdr : l.drop k = x :: l.drop (k + 1) := by
            rw [List.drop_eq_getElem_cons hlt]
            rw [List.getElem?_eq_getElem hlt] at hx
            simp at hx
            rw [hx]
          have Hd := Lib.hid hdr
          clear hx hdr e1
          obtain ⟨day, keep⟩ := x
          simp only at hx0 hx1
          have v0 : IntKind.i64.wrap (d + 1) = d + 1 := IntWalk.i64_in _ (by omega)
          have gg := Gr.al wr (.cells #[.int .i64 day, .int .i64 keep] 138)
          have hb := Box.new wr [.int .i64 day, .int .i64 keep] 138 wr.heap.size rfl
          have ob := ob.keep gg
          obtain ⟨q0, q1⟩ := hb.c2
          obtain ⟨u0, u1⟩ := ob.1.c2
          cases c0 : inB (d + 1) 10000 [day] with
          | false =>
            have E : tableL l = false := by rw [HE.out, Hch.out, Hd.out]; simp [chainL, c0]
            have HX := Lib.hid E
            clear E
            go_wp2_with (go_at_call 79; refine (within_any (d + 1) 10000 [day] _ c0 _ _ _ (IRow.new' _ 3 [day] (by simp) _ (by simp) _ (by simp))).mono ?_; rintro e w2 ⟨rfl, hg⟩; have hg2 := Gr.tr (Gr.al _ _) hg; replace gg := gg.tr hg2; clear hg hg2)
            go_ret
            exact ⟨ret_bool HX.out.symm, hG.tr gg⟩
          | true =>
            cases c1 : inB 0 kk [keep] with
            | false =>
              have E : tableL l = false := by rw [HE.out, Hch.out, Hd.out]; simp [chainL, c0, c1]
              have HX := Lib.hid E
              clear E
              have tok0 : True := trivial
              go_wp2_with (first | (have _t := tok0; clear tok0 _t; go_at_call 79; refine (within_any (d + 1) 10000 [day] _ c0 _ _ _ (IRow.new' _ 3 [day] (by simp) _ (by simp) _ (by simp))).mono ?_; rintro e w2 ⟨rfl, hg⟩; have hg2 := Gr.tr (Gr.al _ _) hg; replace gg := gg.tr hg2; replace hb := hb.keep hg2; replace ob := ob.keep hg2; clear hg hg2 q0 q1 u0 u1; obtain ⟨q0, q1⟩ := hb.c2; obtain ⟨u0, u1⟩ := ob.1.c2) | (go_at_call 79; refine (within_any 0 kk [keep] _ c1 _ _ _ (IRow.new' _ 3 [keep] (by simp) _ (by simp) _ (by simp))).mono ?_; rintro e w3 ⟨rfl, hg⟩; have hg2 := Gr.tr (Gr.al _ _) hg; replace gg := gg.tr hg2; clear hg hg2))
              go_ret
              exact ⟨ret_bool HX.out.symm, hG.tr gg⟩
            | true =>
              have dd : -1 ≤ day ∧ day ≤ 10000 := by
                simp [inB, in1] at c0
                omega
              have HN := Lib.hid (show chainL (-1) 1000 l = chainL day keep (l.drop (k + 1)) by rw [Hch.out, Hd.out]; simp [chainL, c0, c1])
              have tok0 : True := trivial
              go_wp2_with (first | (have _t := tok0; clear tok0 _t; go_at_call 79; refine (within_any (d + 1) 10000 [day] _ c0 _ _ _ (IRow.new' _ 3 [day] (by simp) _ (by simp) _ (by simp))).mono ?_; rintro e w2 ⟨rfl, hg⟩; have hg2 := Gr.tr (Gr.al _ _) hg; replace gg := gg.tr hg2; replace hb := hb.keep hg2; replace ob := ob.keep hg2; clear hg hg2 q0 q1 u0 u1; obtain ⟨q0, q1⟩ := hb.c2; obtain ⟨u0, u1⟩ := ob.1.c2) | (go_at_call 79; refine (within_any 0 kk [keep] _ c1 _ _ _ (IRow.new' _ 3 [keep] (by simp) _ (by simp) _ (by simp))).mono ?_; rintro e w3 ⟨rfl, hg⟩; have hg2 := Gr.tr (Gr.al _ _) hg; replace gg := gg.tr hg2; replace hb := hb.keep hg2; replace ob := ob.keep hg2; clear hg hg2 q0 q1 u0 u1; obtain ⟨q0, q1⟩ := hb.c2; obtain ⟨u0, u1⟩ := ob.1.c2; have z0 := ob.2 0; have z1 := ob.2 1))
              go_roundw
              case rel => exact ⟨k + 1, day, keep, by omega, by go_num, HN, dd.1, dd.2, (ob.set (i := 0) (by simp)).set (i := 1) (by simp), ((hG.tr gg).setCell (by omega) _).setCell (by omega) _⟩
              case measure => simp [intOf]; omega
        · have hf : tableL l = true := by
            rw [HE.out, Hch.out, List.drop_of_length_le (by omega)]
            rfl
          have Hf := Lib.hid hf
          clear hf
          go_wp2
          go_ret
          exact ⟨ret_bool Hf.out.symm, hG⟩
    · have E0 : tableL l = false := by rw [el]; simp [tableL, hz]
      rw [← el] at hr hn hm ⊢
      rw [E0]
      obtain ⟨b0, off, rfl, hb, hc0, hc1⟩ := TRow.get hr h00
      simp only [Nat.zero_mul, Nat.add_zero] at hc0
      have l1 : 0 < l.length := by rw [el]; simp
      clear el
      have hz2 : (s0.day != 0) = true := by simpa using hz
      go_enter Try.func121, Try.ntmps121
      go_wp2_with (go_at_call 79; refine (within_any 1 10 [(l.length : Int)] _ hn _ _ _ (IRow.new' _ 3 [(l.length : Int)] (by simp) _ (by simp) _ (by simp))).mono ?_; rintro e w1 ⟨rfl, hg⟩; have g1 := Gr.tr (Gr.al _ _) hg; have hc9 := g1.keep hc0; clear hg)
      go_ret
      exact ⟨rfl, g1⟩

end Go.Proofs.Ytcdilmagcdbogaa

namespace Go.Proofs.Ytcdilmagcdbogaa
set_option linter.unusedVariables false
set_option linter.unusedSimpArgs false
open Go.RowKit

def storedL (most : Int) (l : List Ld) (t : List Stp) (days : Int) : Int :=
  if boxedL most l = 0 then (if tableL t = false then 4 else if inB 0 10000 [days] = false then 3 else 0) else boxedL most l

set_option maxRecDepth 100000 in
set_option maxHeartbeats 2000000 in
theorem stored_any (most : Int) (l : List Ld) (t : List Stp) (days : Int) (a c : Option Addr) (cap cc : Nat) (w : World) (hr : LRow w a l) (ht : TRow w c t) :
    Calls Try.prog 88 #[.slice a l.length cap, .int .i64 most, .slice c t.length cc, .int .i64 days] w fun e w' => e = .returned (.int .i64 (storedL most l t days)) ∧ Gr w w' := by
  by_cases b0 : boxedL most l = 0
  · cases t0 : tableL t with
    | false =>
      have E : storedL most l t days = 4 := by simp [storedL, b0, t0]
      rw [E]
      go_enter Try.func88, Try.ntmps88
      go_wp2_with fail
      refine (boxed_any most l _ _ _ hr).mono ?_
      rintro e w1 ⟨rfl, h1⟩
      rw [b0]
      go_wp2_with fail
      refine (goodTable_any t _ _ _ (ht.grow h1)).mono ?_
      rintro e w2 ⟨rfl, h2⟩
      rw [t0]
      go_wp2
      go_ret
      exact ⟨rfl, h1.tr h2⟩
    | true =>
      cases d0 : inB 0 10000 [days] with
      | false =>
        have E : storedL most l t days = 3 := by simp [storedL, b0, t0, d0]
        rw [E]
        go_enter Try.func88, Try.ntmps88
        go_wp2_with fail
        refine (boxed_any most l _ _ _ hr).mono ?_
        rintro e w1 ⟨rfl, h1⟩
        rw [b0]
        go_wp2_with fail
        refine (goodTable_any t _ _ _ (ht.grow h1)).mono ?_
        rintro e w2 ⟨rfl, h2⟩
        rw [t0]
        go_wp2_with (go_at_call 79; refine (within_any 0 10000 [days] _ d0 _ _ _ (IRow.new' _ 3 [days] (by simp) _ (by simp) _ (by simp))).mono ?_; rintro e w3 ⟨rfl, hg⟩; have h3 := Gr.tr (Gr.al _ _) hg)
        go_ret
        exact ⟨rfl, h1.tr (h2.tr h3)⟩
      | true =>
        have E : storedL most l t days = 0 := by simp [storedL, b0, t0, d0]
        rw [E]
        go_enter Try.func88, Try.ntmps88
        go_wp2_with fail
        refine (boxed_any most l _ _ _ hr).mono ?_
        rintro e w1 ⟨rfl, h1⟩
        rw [b0]
        go_wp2_with fail
        refine (goodTable_any t _ _ _ (ht.grow h1)).mono ?_
        rintro e w2 ⟨rfl, h2⟩
        rw [t0]
        go_wp2_with (go_at_call 79; refine (within_any 0 10000 [days] _ d0 _ _ _ (IRow.new' _ 3 [days] (by simp) _ (by simp) _ (by simp))).mono ?_; rintro e w3 ⟨rfl, hg⟩; have h3 := Gr.tr (Gr.al _ _) hg)
        go_ret
        exact ⟨rfl, h1.tr (h2.tr h3)⟩
  · have E : storedL most l t days = boxedL most l := by simp [storedL, b0]
    rw [E]
    have b1 : (boxedL most l != 0) = true := by simpa using b0
    go_enter Try.func88, Try.ntmps88
    go_wp2_with fail
    refine (boxed_any most l _ _ _ hr).mono ?_
    rintro e w1 ⟨rfl, h1⟩
    go_wp2
    go_ret
    exact ⟨rfl, h1⟩

end Go.Proofs.Ytcdilmagcdbogaa

namespace Go.Proofs.Ytcdilmagcdbogaa
set_option linter.unusedVariables false
set_option linter.unusedSimpArgs false
open Go.RowKit

set_option maxRecDepth 100000 in
theorem loads_any (l : List Ld) (a : Option Addr) (cap : Nat) (w : World) :
    Calls Try.prog 87 #[.slice a l.length cap] w fun e w' => e = .returned (.func (.func 120) #[] #[.pointer (some ⟨w.heap.size, 0, none⟩)]) ∧ Own w' w.heap.size [.slice a l.length cap] ∧ Gr w w' := by
  have ob := Own.new w [.slice a l.length cap] 53 w.heap.size rfl
  have gg := Gr.al w (.cells #[.slice a l.length cap] 53)
  go_enter Try.func87, Try.ntmps87
  go_wp2
  go_ret
  exact ⟨rfl, ob, gg⟩

set_option maxRecDepth 100000 in
theorem members_any (set : Int) (w : World) :
    Calls Try.prog 128 #[.int .i64 set] w fun e w' => e = .returned (.func (.func 148) #[] #[.pointer (some ⟨w.heap.size, 0, none⟩)]) ∧ Own w' w.heap.size [.int .i64 set] ∧ Gr w w' := by
  have ob := Own.new w [.int .i64 set] 3 w.heap.size rfl
  have gg := Gr.al w (.cells #[.int .i64 set] 3)
  go_enter Try.func128, Try.ntmps128
  go_wp2
  go_ret
  exact ⟨rfl, ob, gg⟩

end Go.Proofs.Ytcdilmagcdbogaa

namespace Go.Proofs.Ytcdilmagcdbogaa
open Go.RowKit

/-- Whatever lay in W, but for the blocks of Z, lies in W' as it lay. -/
structure Kx (Z : Nat → Prop) (W W' : World) : Prop where
  os : W'.os = W.os
  tape : W'.tape = W.tape
  output : W'.output = W.output
  size : W.heap.size ≤ W'.heap.size
  block : ∀ k, k < W.heap.size → ¬ Z k → W'.heap[k]? = W.heap[k]?

abbrev noBlock : Nat → Prop := fun _ => False

theorem Kx.refl (Z : Nat → Prop) (W : World) : Kx Z W W := ⟨rfl, rfl, rfl, Nat.le_refl _, fun _ _ _ => rfl⟩

theorem Kx.th {Z Z' : Nat → Prop} {a b c : World} (h : Kx Z a b) (k : Kx Z' b c) (hz : ∀ i, Z' i → Z i ∨ a.heap.size ≤ i) : Kx Z a c :=
  ⟨k.os.trans h.os, k.tape.trans h.tape, k.output.trans h.output, Nat.le_trans h.size k.size, fun i hi hn =>
    (k.block i (Nat.lt_of_lt_of_le hi h.size) (fun e => by rcases hz i e with e | e; exact hn e; omega)).trans (h.block i hi hn)⟩

theorem Kx.tr {Z : Nat → Prop} {a b c : World} (h : Kx Z a b) (k : Kx Z b c) : Kx Z a c := h.th k fun _ e => .inl e

theorem Kx.mono {Z Z' : Nat → Prop} {a b : World} (h : Kx Z a b) (hz : ∀ i, Z i → Z' i ∨ a.heap.size ≤ i) : Kx Z' a b :=
  (Kx.refl Z' a).th h hz

theorem Kx.gr {Z : Nat → Prop} {a b : World} (h : Gr a b) : Kx Z a b := ⟨h.os, h.tape, h.output, h.size, fun i hi _ => h.block i hi⟩

theorem Kx.al (Z : Nat → Prop) (w : World) (o : Obj) : Kx Z w (w.alloc o) := .gr (Gr.al w o)

theorem Kx.dr (Z : Nat → Prop) (w : World) : Kx Z w w.drew := ⟨rfl, rfl, rfl, Nat.le_refl _, fun _ _ _ => rfl⟩

theorem Kx.put {Z : Nat → Prop} {w : World} {l : Nat} (h : Z l) (o : Obj) : Kx Z w (w.putObj l o) :=
  ⟨rfl, rfl, rfl, by simp, fun k _ hk => World.putObj_heap_other (fun e => hk (e ▸ h))⟩

theorem Kx.set {Z : Nat → Prop} {w : World} {p : Addr} (h : Z p.block) (v : Value) : Kx Z w (w.setCell p v) :=
  ⟨rfl, rfl, rfl, by simp [World.setCell], fun k _ hk => Below.heap_setCell _ _ _ _ (fun e => hk (e ▸ h))⟩

theorem Kx.grown {Z : Nat → Prop} {w w' : World} {row : Option Nat} (hg : w.grownBy w' row) (h : ∀ r, row = some r → Z r ∨ w.heap.size ≤ r) : Kx Z w w' :=
  ⟨hg.os, hg.tape, hg.output, hg.size, fun k hk hz => hg.block k hk (fun e => by rcases h k e.symm with h | h; exact hz h; omega)⟩

theorem Kx.toGr {w w' : World} (h : Kx noBlock w w') : Gr w w' := ⟨h.os, h.tape, h.output, h.size, fun k hk => h.block k hk (fun e => e)⟩

theorem Kx.keepO {Z : Nat → Prop} {w w' : World} (h : Kx Z w w') {k : Nat} {o : Obj} (ho : w.heap[k]? = some o) (hz : ¬ Z k) : w'.heap[k]? = some o :=
  (h.block k (Array.getElem?_eq_some_iff.1 ho).1 hz).trans ho

/-- What holds whatever the holder of Y's blocks does. -/
def Ab (J : (Nat → Prop) → World → Prop) : Prop :=
  ∀ Y Y' A B, J Y A → Kx Y A B → (∀ k, Y' k → Y k ∨ A.heap.size ≤ k) → J Y' B

/-- The rounds' blocks and the iterator's are blocks of W, and none is both's. -/
structure Dj (X Y : Nat → Prop) (W : World) : Prop where
  x : ∀ k, X k → k < W.heap.size
  y : ∀ k, Y k → k < W.heap.size
  n : ∀ k, X k → ¬ Y k

variable {F : Fence} {n : Nat} {P : Program}

/-- An iterator's contract: of what lay in w0 it reads nothing in Z0's blocks; Good Z x W: x is at hand in W and stays so whoever turns Z's blocks. -/
def SeqX {α : Type} (F : Fence) (n : Nat) (P : Program) (g : Nat) (lb : Array Value) (encs : α → Array Value) (Good : List α → (Nat → Prop) → α → World → Prop) (S Sp : List α → Prop) (Z0 : Nat → Prop) (w0 : World) : Prop :=
  ∀ (l : Nat) (J : List α → (Nat → Prop) → (Nat → Prop) → World → Prop) (Jx : List α → (Nat → Prop) → World → Prop) (X0 : Nat → Prop) (W : World),
    Kx Z0 w0 W → (∀ k, X0 k → k < W.heap.size ∧ (Z0 k ∨ w0.heap.size ≤ k)) → (∀ s X, Ab (J s X)) → (∀ s, Ab (Jx s)) →
    (∀ pre x X Y W1, J pre X Y W1 → Good pre (fun k => X k ∨ Y k) x W1 → Dj X Y W1 → YieldAt F (n - 1) P l (encs x) W1 fun e W' => Kx X W1 W' ∧
      ((e = .returned (.bool true) ∧ ∃ X', J (pre ++ [x]) X' Y W' ∧ ∀ k, X' k → k < W'.heap.size ∧ (X k ∨ W1.heap.size ≤ k)) ∨ (e = .returned (.bool false) ∧ Jx (pre ++ [x]) Y W'))) →
    J [] X0 noBlock W →
    CallsIn F n P g (#[.func (.yield l) #[] #[]] ++ lb) W fun e W' => (∃ v, e = .returned v) ∧ ((∃ xs X Y, S xs ∧ J xs X Y W') ∨ (∃ pre Y, Sp pre ∧ Jx pre Y W'))

/-- How the body of a round may be left. -/
def postX {α : Type} (I : List α → (Nat → Prop) → (Nat → Prop) → World → Prop) (Ix : Code → List α → (Nat → Prop) → World → Prop) (xs : List α) (X Y : Nat → Prop) (W : World) : Exit → Act → World → Prop
  | .normal, _, W' => Kx X W W' ∧ ∃ X', I xs X' Y W' ∧ ∀ k, X' k → k < W'.heap.size ∧ (X k ∨ W.heap.size ≤ k)
  | .ret, _, W' => Kx X W W' ∧ Ix .ret xs Y W'
  | .exit id, _, W' => Kx X W W' ∧ Ix (.exit id) xs Y W'
  | .goto t, _, W' => Kx X W W' ∧ Ix (.goto t) xs Y W'
  | .panic _, _, _ => False
  | .outgrown, _, _ => False

/-- The iterator's call, the record l laid and block D holding o (which nobody turns). -/
theorem seqX_core {α : Type} {ps : Array Tmp} {assign body : Code} {tmps : Array Value} {fn : FuncId} (hfn : F.fn fn) (rec : LoopState → Option Code → Loop) (dd l D : Nat) (o : Obj) (T : Nat → Prop) (hTl : T l) (hT : ∀ k, T k → k = l ∨ k = D)
    (hrec : rec = fun st pe => { state := st, pending := pe, fn, tmps, params := ps, assign, body, defers := dd })
    {gf : Nat} {lb : Array Value} {encs : α → Array Value} {Good : List α → (Nat → Prop) → α → World → Prop} {S Sp : List α → Prop} {Z0 : Nat → Prop} {w0 W0 : World} (hseq : SeqX F (n - 1) P gf lb encs Good S Sp Z0 w0)
    (hk0 : Kx Z0 w0 W0) (hps : ∀ x, (encs x).size = ps.size)
    (hlD : D ≠ l) (hL0 : W0.heap[l]? = some (.loop (rec .ready none))) (hD0 : W0.heap[D]? = some o)
    (X0 : Nat → Prop) (hX0 : ∀ k, X0 k → k < W0.heap.size ∧ (Z0 k ∨ w0.heap.size ≤ k)) (hXl : ¬ X0 l) (hXD : ¬ X0 D) (hT0 : ∀ k, T k → w0.heap.size ≤ k)
    (I : List α → (Nat → Prop) → (Nat → Prop) → World → Prop) (Ix : Code → List α → (Nat → Prop) → World → Prop) (hI : ∀ s X, Ab (I s X)) (hIx : ∀ c s, Ab (Ix c s)) (h0 : I [] X0 T W0)
    (A : List α → α → Act → (Nat → Prop) → (Nat → Prop) → World → Prop) (hA : ∀ s x a X, Ab (A s x a X))
    (hassign : ∀ (pre : List α) (x : α) (X Y : Nat → Prop) (W : World) (K : Act → World → Prop), I pre X Y W → Good pre (fun k => X k ∨ Y k) x W → Dj X Y W →
      (∀ a' X' W', A pre x a' X' Y W' → Kx X W W' → (∀ k, X' k → k < W'.heap.size ∧ (X k ∨ W.heap.size ≤ k)) → K a' W') →
      assign.wpIn (F.inRound l) (n - 1 - 1) P (Exit.then K (fun _ _ _ => False)) { tmps := (ps.zip (encs x)).foldl (fun t (p, v) => t.setIfInBounds p v) tmps, defers := [] } W)
    (hbody : ∀ (pre : List α) (x : α) (a' : Act) (X Y : Nat → Prop) (W : World), A pre x a' X Y W → Dj X Y W → Y l → (∃ r, W.heap[l]? = some (.loop r)) →
      body.wpIn (F.inRound l) (n - 1 - 1) P (postX I Ix (pre ++ [x]) X Y W) a' W) :
    CallsIn F (n - 1) P gf (#[.func (.yield l) #[] #[]] ++ lb) W0 fun e W2 => ∃ v, e = .returned v ∧
      ((∃ xs X Y, S xs ∧ I xs X Y W2 ∧ (∀ k, T k → Y k) ∧ W2.heap[l]? = some (.loop (rec .ready none)) ∧ W2.heap[D]? = some o) ∨
       (∃ pre Y c, Sp pre ∧ Ix c pre Y W2 ∧ (∀ k, T k → Y k) ∧ W2.heap[l]? = some (.loop (rec .done (some c))) ∧ W2.heap[D]? = some o)) := by
  have hl0 : l < W0.heap.size := (Array.getElem?_eq_some_iff.1 hL0).1
  have hd0 : D < W0.heap.size := (Array.getElem?_eq_some_iff.1 hD0).1
  refine (hseq l
    (fun pre Xi Y W => ∃ X, Xi = (fun k => X k ∨ T k) ∧ I pre X (fun k => Y k ∨ T k) W ∧ W.heap[l]? = some (.loop (rec .ready none)) ∧ W.heap[D]? = some o ∧ ¬ Y l ∧ ¬ Y D ∧ ¬ X l ∧ ¬ X D)
    (fun pre Y W => ∃ c, Ix c pre (fun k => Y k ∨ T k) W ∧ W.heap[l]? = some (.loop (rec .done (some c))) ∧ W.heap[D]? = some o ∧ ¬ Y l ∧ ¬ Y D)
    (fun k => X0 k ∨ T k) W0 hk0 ?_ ?_ ?_ ?_ ?_).mono ?_
  · rintro k (h | h)
    · exact hX0 k h
    · exact ⟨by rcases hT k h with e | e <;> (rw [e]; assumption), .inr (hT0 k h)⟩
  · rintro s Xi Y Y' B C ⟨X, hXi, hi, hl, hd, h1, h2, h3, h4⟩ hk hy
    refine ⟨X, hXi, hI s X _ _ _ _ hi (hk.mono fun i e => .inl (.inl e)) ?_, hk.keepO hl h1, hk.keepO hd h2, ?_, ?_, h3, h4⟩
    · rintro k (e | e)
      · rcases hy k e with e | e
        · exact .inl (.inl e)
        · exact .inr e
      · exact .inl (.inr e)
    · intro e
      rcases hy l e with e | e
      · exact h1 e
      · have := (Array.getElem?_eq_some_iff.1 hl).1; omega
    · intro e
      rcases hy D e with e | e
      · exact h2 e
      · have := (Array.getElem?_eq_some_iff.1 hd).1; omega
  · rintro s Y Y' B C ⟨c, hi, hl, hd, h1, h2⟩ hk hy
    refine ⟨c, hIx c s _ _ _ _ hi (hk.mono fun i e => .inl (.inl e)) ?_, hk.keepO hl h1, hk.keepO hd h2, ?_, ?_⟩
    · rintro k (e | e)
      · rcases hy k e with e | e
        · exact .inl (.inl e)
        · exact .inr e
      · exact .inl (.inr e)
    · intro e
      rcases hy l e with e | e
      · exact h1 e
      · have := (Array.getElem?_eq_some_iff.1 hl).1; omega
    · intro e
      rcases hy D e with e | e
      · exact h2 e
      · have := (Array.getElem?_eq_some_iff.1 hd).1; omega
  · -- ONE ROUND
    rintro pre x Xi Y W ⟨X, rfl, hi, hl, hd, hYl, hYD, hXl, hXD⟩ hg hdj
    have hlt : l < W.heap.size := (Array.getElem?_eq_some_iff.1 hl).1
    have hdt : D < W.heap.size := (Array.getElem?_eq_some_iff.1 hd).1
    have hy := run_yield (P := P) (args := encs x) hl (by rw [hrec]; exact hps x)
    rw [hrec] at hy
    have hgz : Good pre (fun k => X k ∨ (Y k ∨ T k)) x W := by
      have e : (fun k => (X k ∨ T k) ∨ Y k) = fun k => X k ∨ (Y k ∨ T k) := by
        funext k
        exact propext ⟨fun h => by rcases h with (h | h) | h; exact .inl h; exact .inr (.inr h); exact .inr (.inl h), fun h => by rcases h with h | h | h; exact .inl (.inl h); exact .inr h; exact .inl (.inr h)⟩
      rw [← e]; exact hg
    have hTW : ∀ k, T k → k < W.heap.size := fun k e => by rcases hT k e with e | e <;> (rw [e]; assumption)
    have hTX : ∀ k, T k → ¬ X k := fun k e => by rcases hT k e with e | e <;> (rw [e]; assumption)
    have hdj' : Dj X (fun k => Y k ∨ T k) W := ⟨fun k e => hdj.x k (.inl e), fun k e => by rcases e with e | e; exact hdj.y k e; exact hTW k e, fun k e h => by
      rcases h with h | h
      · exact hdj.n k (.inl e) h
      · exact hTX k h e⟩
    refine ⟨fn, _, assign, body, hy, roundIn_of_wpIn hfn (hassign pre x X _ W _ hi hgz hdj' ?_)⟩
    clear hy
    intro a' X1 Wa ha hka hx1
    have hnl : ¬ X1 l := fun e => by rcases (hx1 l e).2 with h | h; exact hXl h; omega
    have hnD : ¬ X1 D := fun e => by rcases (hx1 D e).2 with h | h; exact hXD h; omega
    have hla := hka.keepO hl hXl
    have hda := hka.keepO hd hXD
    have hlta : l < Wa.heap.size := (Array.getElem?_eq_some_iff.1 hla).1
    refine ⟨_, run_beginRound hla (by rw [hrec]), ?_⟩
    obtain ⟨W2, hW2⟩ : ∃ W2, Wa.putObj l (.loop { rec .ready none with state := .busy }) = W2 := ⟨_, rfl⟩
    rw [hW2]
    have hsz2 : W2.heap.size = Wa.heap.size := by rw [← hW2]; simp
    have hl2 : W2.heap[l]? = some (.loop { rec .ready none with state := .busy }) := by rw [← hW2]; exact World.putObj_heap_same hlta
    have hd2 : W2.heap[D]? = some o := by rw [← hW2]; exact (World.putObj_heap_other hlD).trans hda
    have hk2 : ∀ Z : Nat → Prop, Z l → Kx Z Wa W2 := fun Z hz => by rw [← hW2]; exact Kx.put hz _
    have ha2 : A pre x a' X1 (fun k => Y k ∨ T k) W2 := hA pre x a' X1 _ _ _ _ ha (hk2 _ (.inr hTl)) fun k e => .inl e
    have hdj2 : Dj X1 (fun k => Y k ∨ T k) W2 := by
      refine ⟨fun k e => hsz2 ▸ (hx1 k e).1, fun k e => ?_, fun k e h => ?_⟩
      · have := hka.size
        rcases e with e | e
        · have := hdj.y k e; omega
        · have := hTW k e; omega
      · rcases (hx1 k e).2 with h' | h'
        · rcases h with h | h
          · exact hdj.n k (.inl h') h
          · exact hTX k h h'
        · rcases h with h | h
          · have := hdj.y k h; omega
          · have := hTW k h; omega
    refine wpIn_mono (hbody pre x a' X1 _ W2 ha2 hdj2 (.inr hTl) ⟨_, hl2⟩) ?_
    have fin : ∀ (jump : Option Code) (W3 : World), Kx X1 W2 W3 → ∃ W4, W4 = W3.putObj l (.loop (rec (if jump.isNone then .ready else .done) jump)) ∧
        (Instr.endRound l jump).run P W3 = .ok (.bool jump.isNone) W4 ∧ W4.heap[l]? = some (.loop (rec (if jump.isNone then .ready else .done) jump)) ∧ W4.heap[D]? = some o ∧ W4.heap.size = W3.heap.size ∧
        (∀ Z : Nat → Prop, Z l → Kx Z W3 W4) ∧ Kx (fun k => X k ∨ T k) W W4 := fun jump W3 hk3 => by
      have hl3 := hk3.keepO hl2 hnl
      have hd3 := hk3.keepO hd2 hnD
      have hr := run_endRound (P := P) jump hl3
      have hk4 : ∀ Z : Nat → Prop, Z l → Kx Z W3 (W3.putObj l (.loop (rec (if jump.isNone then .ready else .done) jump))) := fun Z hz => Kx.put hz _
      refine ⟨_, rfl, ?_, World.putObj_heap_same (Array.getElem?_eq_some_iff.1 hl3).1, (World.putObj_heap_other hlD).trans hd3, by simp, hk4, ?_⟩
      · rw [hrec] at hr ⊢; exact hr
      · have s1 : Kx (fun k => X k ∨ T k) W Wa := hka.mono fun i e => .inl (.inl e)
        have s2 : Kx (fun k => X k ∨ T k) W W2 := s1.tr (hk2 _ (.inr hTl))
        have s3 : Kx (fun k => X k ∨ T k) W W3 := s2.th hk3 fun i e => by rcases (hx1 i e).2 with h | h; exact .inl (.inl h); exact .inr h
        exact s3.tr (hk4 _ (.inr hTl))
    rintro e a3 W3 hp
    cases e with
    | normal =>
      obtain ⟨hk3, X', hi3, hx'⟩ := hp
      obtain ⟨W4, _, hr, hl4, hd4, hs4, hk4, hkk⟩ := fin none W3 hk3
      refine ⟨_, _, hr, hkk, .inl ⟨rfl, fun k => X' k ∨ T k, ⟨X', rfl, hI _ X' _ _ _ _ hi3 (hk4 _ (.inr hTl)) (fun k e => .inl e), hl4, hd4, hYl, hYD, ?_, ?_⟩, ?_⟩⟩
      · intro e; rcases (hx' l e).2 with h | h; exact hnl h; omega
      · intro e; have := hka.size; rcases (hx' D e).2 with h | h; exact hnD h; omega
      · have h1 := hka.size
        have h2 := hk3.size
        rintro k (e | e)
        · obtain ⟨b1, b2⟩ := hx' k e
          refine ⟨by omega, ?_⟩
          rcases b2 with b2 | b2
          · rcases (hx1 k b2).2 with h | h
            · exact .inl (.inl h)
            · exact .inr h
          · exact .inr (by omega)
        · exact ⟨by have := hTW k e; have := hka.size; omega, .inl (.inr e)⟩
    | ret =>
      obtain ⟨hk3, hi3⟩ := hp
      obtain ⟨W4, _, hr, hl4, hd4, hs4, hk4, hkk⟩ := fin (some .ret) W3 hk3
      exact ⟨_, _, hr, hkk, .inr ⟨rfl, .ret, hIx _ _ _ _ _ _ hi3 (hk4 _ (.inr hTl)) (fun k e => .inl e), hl4, hd4, hYl, hYD⟩⟩
    | exit id =>
      obtain ⟨hk3, hi3⟩ := hp
      obtain ⟨W4, _, hr, hl4, hd4, hs4, hk4, hkk⟩ := fin (some (.exit id)) W3 hk3
      exact ⟨_, _, hr, hkk, .inr ⟨rfl, .exit id, hIx _ _ _ _ _ _ hi3 (hk4 _ (.inr hTl)) (fun k e => .inl e), hl4, hd4, hYl, hYD⟩⟩
    | goto t =>
      obtain ⟨hk3, hi3⟩ := hp
      obtain ⟨W4, _, hr, hl4, hd4, hs4, hk4, hkk⟩ := fin (some (.goto t)) W3 hk3
      exact ⟨_, _, hr, hkk, .inr ⟨rfl, .goto t, hIx _ _ _ _ _ _ hi3 (hk4 _ (.inr hTl)) (fun k e => .inl e), hl4, hd4, hYl, hYD⟩⟩
    | panic ch => exact hp.elim
    | outgrown => exact hp.elim
  · refine ⟨X0, rfl, ?_, hL0, hD0, fun e => e, fun e => e, hXl, hXD⟩
    have e : (fun k => noBlock k ∨ T k) = T := by funext k; exact propext ⟨fun h => h.resolve_left fun e => e, .inr⟩
    rw [e]; exact h0
  · rintro e W2 ⟨⟨v, rfl⟩, (⟨xs, Xi, Y, hS, X, rfl, hi, hl, hd, _⟩ | ⟨pre, Y, hSp, c, hi, hl, hd, _⟩)⟩
    · exact ⟨v, rfl, .inl ⟨xs, X, _, hS, hi, fun k e => .inr e, hl, hd⟩⟩
    · exact ⟨v, rfl, .inr ⟨pre, _, c, hSp, hi, fun k e => .inr e, hl, hd⟩⟩

end Go.Proofs.Ytcdilmagcdbogaa

namespace Go.Proofs.Ytcdilmagcdbogaa
open Go.RowKit
variable {F : Fence} {n : Nat} {P : Program}

theorem wpIn_rangeX {α : Type} {g : Operand} {ps : Array Tmp} {assign body : Code} {Q : Exit → Act → World → Prop} {a : Act} {w : World}
    (hro : F.round = none) (h1 : 1 ≤ n) {gf : Nat} {lb : Array Value} (hg : a.eval g = .func (.func gf) #[] lb) (hFg : F.fn gf) (eg : ∀ args w, (callFunc gf args).run P w = .ok (.enter gf args) w)
    {encs : α → Array Value} {Good : List α → (Nat → Prop) → α → World → Prop} {S Sp : List α → Prop} {Z0 : Nat → Prop} {w0 : World} (hseq : SeqX F (n - 1) P gf lb encs Good S Sp Z0 w0)
    (hk0 : Kx Z0 w0 w) (hps : ∀ x, (encs x).size = ps.size)
    (X0 : Nat → Prop) (hX0 : ∀ k, X0 k → k < w.heap.size ∧ (Z0 k ∨ w0.heap.size ≤ k))
    (I : List α → (Nat → Prop) → (Nat → Prop) → World → Prop) (Ix : Code → List α → (Nat → Prop) → World → Prop) (hI : ∀ s X, Ab (I s X)) (hIx : ∀ c s, Ab (Ix c s)) (h0 : I [] X0 noBlock w)
    (A : List α → α → Act → (Nat → Prop) → (Nat → Prop) → World → Prop) (hA : ∀ s x a X, Ab (A s x a X))
    (hassign : ∀ (l : Nat) (pre : List α) (x : α) (X Y : Nat → Prop) (W : World) (K : Act → World → Prop), I pre X Y W → Good pre (fun k => X k ∨ Y k) x W → Dj X Y W →
      (∀ a' X' W', A pre x a' X' Y W' → Kx X W W' → (∀ k, X' k → k < W'.heap.size ∧ (X k ∨ W.heap.size ≤ k)) → K a' W') →
      assign.wpIn (F.inRound l) (n - 1 - 1) P (Exit.then K (fun _ _ _ => False)) { tmps := (ps.zip (encs x)).foldl (fun t (p, v) => t.setIfInBounds p v) a.tmps, defers := [] } W)
    (hbody : ∀ (l : Nat) (pre : List α) (x : α) (a' : Act) (X Y : Nat → Prop) (W : World), A pre x a' X Y W → Dj X Y W → Y l → (∃ r, W.heap[l]? = some (.loop r)) →
      body.wpIn (F.inRound l) (n - 1 - 1) P (postX I Ix (pre ++ [x]) X Y W) a' W)
    (hdone : ∀ (D : Nat) (xs : List α) (X Y : Nat → Prop) (W : World), w.heap.size ≤ D → S xs → I xs X Y W → Y D → W.heap[D]? = some (.deferred (some [])) → Q .normal { a with defers := { target := .collected D, args := #[] } :: a.defers } W)
    (hstop : ∀ (D : Nat) (c : Code) (pre : List α) (Y : Nat → Prop) (W : World), w.heap.size ≤ D → Sp pre → Ix c pre Y W → Y D → W.heap[D]? = some (.deferred (some [])) → c.wpIn F n P Q { a with defers := { target := .collected D, args := #[] } :: a.defers } W) :
    (Code.rangeFunc g ps assign body).wpIn F n P Q a w := by
  refine wpIn_rangeFunc ?_
  intro fn hfn
  rw [hro]
  obtain ⟨rec, hrec⟩ : ∃ rec : LoopState → Option Code → Loop, rec = fun st pe => { state := st, pending := pe, fn, tmps := a.tmps, params := ps, assign, body, defers := w.heap.size } := ⟨_, rfl⟩
  obtain ⟨W1, hW1⟩ : ∃ W1, (w.alloc (.deferred (some []))).alloc (.loop (rec .ready none)) = W1 := ⟨_, rfl⟩
  have hs1 : W1.heap.size = w.heap.size + 2 := by rw [← hW1]; simp
  have hL1 : W1.heap[w.heap.size + 1]? = some (.loop (rec .ready none)) := by
    rw [← hW1]; have := World.alloc_heap_new (w.alloc (.deferred (some []))) (.loop (rec .ready none)); rwa [World.size_alloc] at this
  have hK1 : W1.heap[w.heap.size]? = some (.deferred (some [])) := by
    rw [← hW1]; exact (Below.heap_alloc _ _ _ (by simp)).trans (World.alloc_heap_new w _)
  have hk1 : Kx noBlock w W1 := by rw [← hW1]; exact (Kx.al _ _ _).tr (Kx.al _ _ _)
  refine ⟨w.heap.size + 1, [{ target := .collected w.heap.size, args := #[] }], W1, { target := .fn (.func gf) lb, args := #[.func (.yield (w.heap.size + 1)) #[] #[]] }, W1, gf,
    #[.func (.yield (w.heap.size + 1)) #[] #[]] ++ lb, W1, ?_, ?_, ?_, ?_, fun _ => h1, ?_⟩
  · rw [← hW1, hrec]; exact run_enterLoop_outer _ _ _ _ _
  · simp only [resolve, hg]
    simp [go_sem]
  · intro f' hf'; simp [Target.leads] at hf'; subst hf'; exact hFg
  · simp [invoke, go_sem, eg]
  · refine (seqX_core hfn rec w.heap.size (w.heap.size + 1) w.heap.size (.deferred (some [])) (fun k => k = w.heap.size + 1 ∨ k = w.heap.size) (.inl rfl) (fun k e => e) hrec hseq (hk0.th hk1 fun _ e => e.elim) hps (by omega) hL1 hK1
      X0 (fun k e => ⟨by have := (hX0 k e).1; omega, (hX0 k e).2⟩) (fun e => by have := (hX0 _ e).1; omega) (fun e => by have := (hX0 _ e).1; omega) (fun k e => by have := hk0.size; rcases e with e | e <;> omega)
      I Ix hI hIx (hI _ _ _ _ _ _ h0 hk1 fun k e => .inr (by rcases e with e | e <;> omega)) A hA (fun pre x X Y W K => hassign _ pre x X Y W K) (fun pre x a' X Y W => hbody _ pre x a' X Y W)).mono ?_
    rintro e W2 ⟨v, rfl, (⟨xs, X, Y, hS, hi, hy, hl, hk⟩ | ⟨pre, Y, c, hSp, hi, hy, hl, hk⟩)⟩
    · exact ⟨none, _, by have := run_endLoop (P := P) hl (by rw [hrec]; simp); rw [hrec] at this; exact this, hdone _ xs X Y _ (Nat.le_refl _) hS (hI _ _ _ _ _ _ hi (Kx.put (hy _ (.inl rfl)) _) fun k e => .inl e) (hy _ (.inr rfl)) ((World.putObj_heap_other (by omega)).trans hk)⟩
    · exact ⟨some c, _, by have := run_endLoop (P := P) hl (by rw [hrec]; simp); rw [hrec] at this; exact this, hstop _ c pre Y _ (Nat.le_refl _) hSp (hIx _ _ _ _ _ _ hi (Kx.put (hy _ (.inl rfl)) _) fun k e => .inl e) (hy _ (.inr rfl)) ((World.putObj_heap_other (by omega)).trans hk)⟩

/-- Within a round of loop l₀. -/
theorem wpIn_rangeXN {α : Type} {g : Operand} {ps : Array Tmp} {assign body : Code} {Q : Exit → Act → World → Prop} {a : Act} {w : World}
    {l₀ : Nat} {r₀ : Loop} (hro : F.round = some l₀) (hl₀ : w.heap[l₀]? = some (.loop r₀)) (h1 : 1 ≤ n) {gf : Nat} {lb : Array Value} (hg : a.eval g = .func (.func gf) #[] lb) (hFg : F.fn gf) (eg : ∀ args w, (callFunc gf args).run P w = .ok (.enter gf args) w)
    {encs : α → Array Value} {Good : List α → (Nat → Prop) → α → World → Prop} {S Sp : List α → Prop} {Z0 : Nat → Prop} {w0 : World} (hseq : SeqX F (n - 1) P gf lb encs Good S Sp Z0 w0)
    (hk0 : Kx Z0 w0 w) (hps : ∀ x, (encs x).size = ps.size)
    (X0 : Nat → Prop) (hX0 : ∀ k, X0 k → k < w.heap.size ∧ (Z0 k ∨ w0.heap.size ≤ k)) (hX0l : ¬ X0 l₀)
    (I : List α → (Nat → Prop) → (Nat → Prop) → World → Prop) (Ix : Code → List α → (Nat → Prop) → World → Prop) (hI : ∀ s X, Ab (I s X)) (hIx : ∀ c s, Ab (Ix c s)) (h0 : I [] X0 noBlock w)
    (A : List α → α → Act → (Nat → Prop) → (Nat → Prop) → World → Prop) (hA : ∀ s x a X, Ab (A s x a X))
    (hassign : ∀ (l : Nat) (pre : List α) (x : α) (X Y : Nat → Prop) (W : World) (K : Act → World → Prop), I pre X Y W → Good pre (fun k => X k ∨ Y k) x W → Dj X Y W →
      (∀ a' X' W', A pre x a' X' Y W' → Kx X W W' → (∀ k, X' k → k < W'.heap.size ∧ (X k ∨ W.heap.size ≤ k)) → K a' W') →
      assign.wpIn (F.inRound l) (n - 1 - 1) P (Exit.then K (fun _ _ _ => False)) { tmps := (ps.zip (encs x)).foldl (fun t (p, v) => t.setIfInBounds p v) a.tmps, defers := [] } W)
    (hbody : ∀ (l : Nat) (pre : List α) (x : α) (a' : Act) (X Y : Nat → Prop) (W : World), A pre x a' X Y W → Dj X Y W → Y l → (∃ r, W.heap[l]? = some (.loop r)) →
      body.wpIn (F.inRound l) (n - 1 - 1) P (postX I Ix (pre ++ [x]) X Y W) a' W)
    (hdone : ∀ (xs : List α) (X Y : Nat → Prop) (W : World), S xs → I xs X Y W → Q .normal a W)
    (hstop : ∀ (c : Code) (pre : List α) (Y : Nat → Prop) (W : World), Sp pre → Ix c pre Y W → c.wpIn F n P Q a W) :
    (Code.rangeFunc g ps assign body).wpIn F n P Q a w := by
  have hlt₀ : l₀ < w.heap.size := (Array.getElem?_eq_some_iff.1 hl₀).1
  refine wpIn_rangeFunc ?_
  intro fn hfn
  rw [hro]
  obtain ⟨rec, hrec⟩ : ∃ rec : LoopState → Option Code → Loop, rec = fun st pe => { state := st, pending := pe, fn, tmps := a.tmps, params := ps, assign, body, defers := r₀.defers } := ⟨_, rfl⟩
  obtain ⟨W1, hW1⟩ : ∃ W1, w.alloc (.loop (rec .ready none)) = W1 := ⟨_, rfl⟩
  have hs1 : W1.heap.size = w.heap.size + 1 := by rw [← hW1]; simp
  have hL1 : W1.heap[w.heap.size]? = some (.loop (rec .ready none)) := by rw [← hW1]; exact World.alloc_heap_new w _
  have hk1 : Kx noBlock w W1 := by rw [← hW1]; exact Kx.al _ _ _
  have hK1 : W1.heap[l₀]? = some (.loop r₀) := hk1.keepO hl₀ (fun e => e)
  refine ⟨w.heap.size, [], W1, { target := .fn (.func gf) lb, args := #[.func (.yield w.heap.size) #[] #[]] }, W1, gf,
    #[.func (.yield w.heap.size) #[] #[]] ++ lb, W1, ?_, ?_, ?_, ?_, fun _ => h1, ?_⟩
  · rw [← hW1, hrec]; exact run_enterLoop_inner hl₀ _ _ _ _ _
  · simp only [resolve, hg]
    simp [go_sem]
  · intro f' hf'; simp [Target.leads] at hf'; subst hf'; exact hFg
  · simp [invoke, go_sem, eg]
  · refine (seqX_core hfn rec r₀.defers w.heap.size l₀ (.loop r₀) (fun k => k = w.heap.size) rfl (fun k e => .inl e) hrec hseq (hk0.th hk1 fun _ e => e.elim) hps (by omega) hL1 hK1
      X0 (fun k e => ⟨by have := (hX0 k e).1; omega, (hX0 k e).2⟩) (fun e => by have := (hX0 _ e).1; omega) hX0l (fun k e => by have := hk0.size; omega)
      I Ix hI hIx (hI _ _ _ _ _ _ h0 hk1 fun k e => .inr (by omega)) A hA (fun pre x X Y W K => hassign _ pre x X Y W K) (fun pre x a' X Y W => hbody _ pre x a' X Y W)).mono ?_
    rintro e W2 ⟨v, rfl, (⟨xs, X, Y, hS, hi, hy, hl, hk⟩ | ⟨pre, Y, c, hSp, hi, hy, hl, hk⟩)⟩
    · exact ⟨none, _, by have := run_endLoop (P := P) hl (by rw [hrec]; simp); rw [hrec] at this; exact this, hdone xs X Y _ hS (hI _ _ _ _ _ _ hi (Kx.put (hy _ rfl) _) fun k e => .inl e)⟩
    · exact ⟨some c, _, by have := run_endLoop (P := P) hl (by rw [hrec]; simp); rw [hrec] at this; exact this, hstop c pre Y _ hSp (hIx _ _ _ _ _ _ hi (Kx.put (hy _ rfl) _) fun k e => .inl e)⟩

theorem SeqX.inRound {α : Type} {g : Nat} {lb : Array Value} {encs : α → Array Value} {Good : List α → (Nat → Prop) → α → World → Prop} {S Sp : List α → Prop} {Z0 : Nat → Prop} {w0 : World} (l : Nat)
    (h : SeqX F n P g lb encs Good S Sp Z0 w0) : SeqX (F.inRound l) n P g lb encs Good S Sp Z0 w0 := h

/-- Said of every world that Z's holders may make of W. -/
def St (Z : Nat → Prop) (p : World → Prop) (W : World) : Prop := ∀ B, Kx Z W B → p B

theorem St.here {Z : Nat → Prop} {p : World → Prop} {W : World} (h : St Z p W) : p W := h W (Kx.refl _ _)

theorem St.keep {Z Z' : Nat → Prop} {p : World → Prop} {W W' : World} (h : St Z p W) (k : Kx Z W W') (hz : ∀ i, Z' i → Z i ∨ W.heap.size ≤ i) : St Z' p W' := fun B kb => h B (k.th kb hz)

theorem St.ab (p : World → Prop) : Ab (fun Y => St Y p) := fun _ _ _ _ h k hy => h.keep k hy

theorem St.imp {Z : Nat → Prop} {p q : World → Prop} {W : World} (h : St Z p W) (k : ∀ B, p B → q B) : St Z q W := fun B kb => k B (h B kb)

theorem St.and {Z : Nat → Prop} {p q : World → Prop} {W : World} (h : St Z p W) (k : St Z q W) : St Z (fun B => p B ∧ q B) W := fun B kb => ⟨h B kb, k B kb⟩

theorem Own.kx {Z : Nat → Prop} {w w' : World} {b : Nat} {vs : List Value} (h : Own w b vs) (k : Kx Z w w') (hz : ¬ Z b) : Own w' b vs := by
  have hb := k.block b h.1.1 hz
  exact ⟨⟨Nat.lt_of_lt_of_le h.1.1 k.size, fun i v hv => (World.cell?_of_block (w := w) (a := ⟨b, i, none⟩) hb).trans (h.1.2 i v hv)⟩,
    fun i => (World.frozen?_of_block (w := w) (a := ⟨b, i, none⟩) hb).trans (h.2 i)⟩

theorem RowOf.kx {α : Type} {sz : Nat} {enc : α → List Value} {w w' : World} {a : Option Addr} {l : List α} {Z : Nat → Prop} (h : RowOf sz enc w a l) (k : Kx Z w w') (hz : ∀ b off, a = some ⟨b, off, none⟩ → ¬ Z b) : RowOf sz enc w' a l := by
  refine ⟨h.1, fun j x hx => ?_⟩
  obtain ⟨b, off, ha, hb, hc⟩ := h.2 j x hx
  have hbk := k.block b hb (hz b off ha)
  exact ⟨b, off, ha, Nat.lt_of_lt_of_le hb k.size, fun i v hv => (World.cell?_of_block (w := w) (a := ⟨b, off + j * sz + i, none⟩) hbk).trans (hc i v hv)⟩

theorem Own.st {Z : Nat → Prop} {w : World} {b : Nat} {vs : List Value} (h : Own w b vs) (hz : ¬ Z b) : St Z (fun B => Own B b vs) w := fun _ k => h.kx k hz

theorem RowOf.st {α : Type} {sz : Nat} {enc : α → List Value} {w : World} {a : Option Addr} {l : List α} {Z : Nat → Prop} (h : RowOf sz enc w a l) (hz : ∀ b off, a = some ⟨b, off, none⟩ → ¬ Z b) : St Z (fun B => RowOf sz enc B a l) w := fun _ k => h.kx k hz

end Go.Proofs.Ytcdilmagcdbogaa

namespace Go.Proofs.Ytcdilmagcdbogaa
open Go.RowKit

theorem run_append_new {P : Program} (w : World) (t ty e : TypeId) (i : TypeInfo) (z : Value) (size bytes : Nat) (ht : P.underlying t = some (.slice e)) (hi : P.info? e = some i) (hz : i.zero = some z)
    (hsize : i.size = size) (hby : i.bytes = bytes) (hzs : z.cells.size = size) (hsz : 0 < size)
    (v : Value) (n : Nat) (xs : List Value) (hown : w.ownsRow 0 e size v n xs)
    (a : Addr) (m c : Nat) (news : List Value) (hl : news.length = m * size) (hnews : ∀ j u, news[j]? = some u → w.cell? (a.add j) = some u) (h1 : ∀ u ∈ news, u.oneCell' = true)
    (h63 : n + m ≤ maxLen) (hbytes : (n + m) * bytes ≤ 140737488355328) :
    ∃ v' w', (Builtin.append_ #[t, t] ty #[v, .slice (some a) m c]).run P w = .ok v' w' ∧ w'.ownsRow 0 e size v' (n + m) (xs ++ news) ∧ w.grownBy w' v.ownBlock ∧
      (∀ b, v'.ownBlock = some b → b < w'.heap.size ∧ (v.ownBlock = some b ∨ w.heap.size ≤ b)) := by
  obtain ⟨v', w', hr, h2, h3, h4⟩ := run_append_own (P := P) w 0 t ty e i z size bytes ht hi hz hsize hby hzs hsz v n xs hown a m c news hl hnews h1 h63 hbytes (Nat.zero_le _)
  refine ⟨v', w', hr, h2, h3, fun b hb => ⟨?_, ?_⟩⟩
  · obtain ⟨_, h⟩ := h2
    rcases h with ⟨hv, _⟩ | ⟨g, cap, cur, hv, _, hh, _⟩
    · subst hv; simp [Value.ownBlock] at hb
    · subst hv
      simp only [Value.ownBlock, Option.some.injEq] at hb
      subst hb
      exact (Array.getElem?_eq_some_iff.1 hh).1
  have hsmall : n + m ≤ 9223372036854775807 := by simp only [maxLen] at h63; omega
  subst hsize
  subst hby
  rcases hown.2 with ⟨rfl, rfl⟩ | ⟨g, cap, cur, rfl, hbg, hg, hnc, hcm, hcs, htake⟩
  · by_cases hm : m = 0
    · have := h4.2 ⟨rfl, hm⟩
      subst this
      simp [Value.ownBlock] at hb
    · have hr2 := run_append_nil (P := P) w t ty e i z ht hi hz a m c news hl hnews (by omega) (by omega) (by have hb := hbytes; simp only [Nat.zero_add] at hb; omega)
      rw [hr2] at hr
      injection hr with e1 e2
      subst e1
      simp only [Value.ownBlock, Option.some.injEq] at hb
      exact .inr (by omega)
  · by_cases hroom : n + m ≤ cap
    · have hfit : n * i.size + news.length ≤ cur.size := by rw [hl, hcs, ← Nat.add_mul]; exact Nat.mul_le_mul_right _ hroom
      have hr2 := run_append_room (P := P) w t ty e i ht hi g n cap cur hg a m c news hl hnews h1 hroom hfit
      rw [hr2] at hr
      injection hr with e1 e2
      subst e1
      exact .inl hb
    · have holds : ∀ j u, xs[j]? = some u → w.cell? ((⟨g, 0, none⟩ : Addr).add j) = some u := hown.cells (g := g) rfl
      have hr2 := run_append_grow (P := P) w t ty e i z ht hi hz ⟨g, 0, none⟩ n cap xs hown.1 holds a m c news hl hnews (by omega) (by omega) (growslice_fits (by omega) hbytes)
      rw [hr2] at hr
      injection hr with e1 e2
      subst e1
      simp only [Value.ownBlock, Option.some.injEq] at hb
      exact .inr (by omega)

theorem wpListIn_append_new {F : Fence} {n : Nat} {P : Program} (w : World) {ops : Array Oper} {rest : List Oper} {o : Oper} {a : Act} {Q : Exit → Act → World → Prop}
    (hg : o.guard = none) (s x : Operand) (t : TypeId) (hop : o.op = Op.call { callee := Callee.builtin Builtin.append, args := #[s, x], argTypes := #[t, t] })
    (e : TypeId) (i : TypeInfo) (z : Value) (size bytes : Nat) (h1 : P.underlying t = some (.slice e)) (h2 : P.info? e = some i) (h3 : i.zero = some z) (h4 : i.size = size) (h5 : i.bytes = bytes) (h6 : z.cells.size = size) (h7 : 0 < size)
    (v : Value) (k : Nat) (xs : List Value) (hs : a.eval s = v) (hown : w.ownsRow 0 e size v k xs) (ad : Addr) (m c : Nat) (news : List Value) (hx : a.eval x = .slice (some ad) m c) (hn : news.length = m * size)
    (hc : ∀ j u, news[j]? = some u → w.cell? (ad.add j) = some u) (h1c : ∀ u ∈ news, u.oneCell' = true) (b1 : k + m ≤ maxLen) (b2 : (k + m) * bytes ≤ 140737488355328)
    (hK : ∀ v' w', w'.ownsRow 0 e size v' (k + m) (xs ++ news) → w.grownBy w' v.ownBlock → (∀ b, v'.ownBlock = some b → b < w'.heap.size ∧ (v.ownBlock = some b ∨ w.heap.size ≤ b)) → wpListIn F n P ops Q rest (a.put o.dst v') w') :
    wpListIn F n P ops Q (o :: rest) a w := by
  refine wpListIn_plain hg fun K hK' => ?_
  obtain ⟨v', w', hrun, r1, r2, r3⟩ := run_append_new (P := P) w t o.type e i z size bytes h1 h2 h3 h4 h5 h6 h7 v k xs hown ad m c news hn hc h1c b1 b2
  unfold Oper.wpIn
  refine ⟨?_, ?_⟩
  · simp [Oper.about, hop, resolve, Target.leads, Sem.run_pure]
  · rw [Oper.semAt_plain F _ _ (by rw [hop]; intro c hc'; cases hc')]
    simp [execOp, hop, resolve, invoke, builtin, hs, hx, hrun, Result.andThen]
    exact hK' _ _ (hK v' w' r1 r2 r3)

end Go.Proofs.Ytcdilmagcdbogaa

namespace Go.Proofs.Ytcdilmagcdbogaa
set_option linter.unusedVariables false
set_option linter.unusedSimpArgs false
open Go.RowKit Go.Shelf
attribute [local go_sem] Oper.semAt_some

def sumLo : List Ld → Int
  | [] => 0
  | x :: l => x.wl + sumLo l

def sumHi : List Ld → Int
  | [] => 0
  | x :: l => x.wh + sumHi l

/-- What lies on each box: its place, and the least and the greatest load. -/
def loadsL (l : List Ld) : List (Nat × Int × Int) := (List.range l.length).map fun k => (k, sumLo (l.drop (k + 1)), sumHi (l.drop (k + 1)))

def LdB (x : Ld) : Prop := 0 ≤ x.wl ∧ x.wl ≤ 1000000000 ∧ 0 ≤ x.wh ∧ x.wh ≤ 1000000000

theorem sum_app (x : Ld) : ∀ l : List Ld, sumLo (l ++ [x]) = sumLo l + x.wl ∧ sumHi (l ++ [x]) = sumHi l + x.wh
  | [] => by simp [sumLo, sumHi]
  | y :: l => by
    have := sum_app x l
    simp only [List.cons_append, sumLo, sumHi]
    omega

theorem sum_take {l : List Ld} {k : Nat} {x : Ld} (h : l[k]? = some x) : sumLo (l.take (k + 1)) = sumLo (l.take k) + x.wl ∧ sumHi (l.take (k + 1)) = sumHi (l.take k) + x.wh := by
  have e : l.take (k + 1) = l.take k ++ [x] := by rw [List.take_add_one, h]; rfl
  rw [e]
  exact sum_app x _

theorem sum_drop {l : List Ld} {k : Nat} {x : Ld} (h : l[k]? = some x) : sumLo (l.drop k) = x.wl + sumLo (l.drop (k + 1)) ∧ sumHi (l.drop k) = x.wh + sumHi (l.drop (k + 1)) := by
  have hk := (List.getElem?_eq_some_iff.1 h).1
  have e : l.drop k = x :: l.drop (k + 1) := by rw [List.drop_eq_getElem_cons hk, (List.getElem?_eq_some_iff.1 h).2]
  rw [e]
  exact ⟨rfl, rfl⟩

theorem sum_bd : ∀ {l : List Ld}, (∀ x ∈ l, LdB x) → 0 ≤ sumLo l ∧ sumLo l ≤ 1000000000 * (l.length : Int) ∧ 0 ≤ sumHi l ∧ sumHi l ≤ 1000000000 * (l.length : Int)
  | [], _ => by simp [sumLo, sumHi]
  | y :: l, h => by
    obtain ⟨a, b, c, d⟩ := sum_bd (fun x hx => h x (List.mem_cons_of_mem _ hx))
    obtain ⟨p, q, r, s⟩ := h y List.mem_cons_self
    simp only [sumLo, sumHi, List.length_cons]
    omega

theorem loadsL_take {l : List Ld} {k : Nat} (hk : k < l.length) : (loadsL l).take (k + 1) = (loadsL l).take k ++ [(k, sumLo (l.drop (k + 1)), sumHi (l.drop (k + 1)))] := by
  rw [List.take_add_one]
  congr 1
  simp [loadsL, hk]

def encO (x : Nat × Int × Int) : Array Value := #[.int .i64 (x.1 : Int), .agg #[.int .i64 x.2.1, .int .i64 x.2.2]]

set_option maxRecDepth 100000 in
set_option maxHeartbeats 2000000 in
theorem loads_seq (F : Fence) (n : Nat) (hF : F.fn 120) (hro : F.round = none) (hn : 1 ≤ n) (b : Nat) (a : Option Addr) (cap : Nat) (l : List Ld) (hl : l.length ≤ 1000) (hB : ∀ x ∈ l, LdB x)
    (Z0 : Nat → Prop) (w0 : World) (hst : St Z0 (fun V => Own V b [.slice a l.length cap] ∧ LRow V a l) w0) :
    SeqX F n Try.prog 120 #[.pointer (some ⟨b, 0, none⟩)] encO (fun pre _ x _ => x ∈ loadsL l ∧ pre.length < l.length) (fun xs => xs = loadsL l) (fun pre => ∃ k, k ≤ l.length ∧ pre = (loadsL l).take k) Z0 w0 := by
  intro i0 J Jx X0 W hk0 hX0 hJ hJx hY h0
  refine callsIn_of_wp Try.func120 rfl hF ?_ hro
  simp only [Try.ntmps120, List.size_toArray, List.length_cons, List.length_nil, Nat.reduceAdd, Nat.reduceSub, Array.replicate_succ, Array.replicate_zero, List.push_toArray, List.append_toArray, List.nil_append, List.cons_append]
  have HY := Lib.hid hY
  have HJ := Lib.hid hJ
  have HX0 := Lib.hid hX0
  have HS := Lib.hid hst
  have HB := Lib.hid hB
  obtain ⟨hb, hrow⟩ := hst W hk0
  have gA := Gr.al W (.cells #[.int .i64 0, .int .i64 0] 45)
  have oL := Own.new W [.int .i64 0, .int .i64 0] 45 W.heap.size rfl
  have q0 := (hb.keep gA).1.c1
  have H0 := Lib.hid h0
  have HK := Lib.hid hk0
  clear hY hJ hX0 hst hB hJx h0
  gi_wp2
  clear q0
  gi_loopw [11] (fun i wr => ∃ k : Nat, k ≤ l.length ∧ i = .int .i64 k ∧ Gr W wr ∧ Own wr W.heap.size [.int .i64 (sumLo (l.take k)), .int .i64 (sumHi (l.take k))]) (fun i _ => l.length - (intOf i).toNat)
  case atStart => exact ⟨0, Nat.zero_le _, rfl, gA, oL⟩
  case round =>
    obtain ⟨k, hk, rfl, gw, ow⟩ := hrel
    by_cases hlt : k < l.length
    · obtain ⟨x, hx⟩ : ∃ x, l[k]? = some x := ⟨l[k], by simp [hlt]⟩
      obtain ⟨c, off, rfl, hc, r0, r1, r2, r3⟩ := LRow.get (hrow.grow gw) hx
      obtain ⟨e1, e2⟩ := sum_take hx
      obtain ⟨t1, t2, t3, t4⟩ := sum_bd (l := l.take k) (fun y hy => HB.out y (List.mem_of_mem_take hy))
      have t5 : (l.take k).length ≤ 1000 := by simp; omega
      obtain ⟨b1, b2, b3, b4⟩ := HB.out x (List.mem_of_getElem? hx)
      have v0 : IntKind.i64.wrap (sumLo (l.take k) + x.wl) = sumLo (l.take k) + x.wl := IntWalk.i64_in _ (by omega)
      have v1 : IntKind.i64.wrap (sumHi (l.take k) + x.wh) = sumHi (l.take k) + x.wh := IntWalk.i64_in _ (by omega)
      have gU := Gr.al wr (.cells #[.int .i64 x.sl, .int .i64 x.sh, .int .i64 x.wl, .int .i64 x.wh] 70)
      have oU := ow.keep gU
      obtain ⟨p0, p1⟩ := oU.1.c2
      have z0 := oU.2 0
      have z1 := oU.2 1
      obtain ⟨s0, s1, s2, s3⟩ := (Box.new wr [.int .i64 x.sl, .int .i64 x.sh, .int .i64 x.wl, .int .i64 x.wh] 70 wr.heap.size rfl).c4'
      have n1 : ¬ wr.heap.size = W.heap.size := by have := ow.1.1; omega
      have n2 : ¬ W.heap.size = wr.heap.size := by omega
      have HE1 := Lib.hid e1
      have HE2 := Lib.hid e2
      have HO := Lib.hid oU
      have HG := Lib.hid (gw.tr gU)
      clear e1 e2 oU t1 t2 t3 t4 t5 b1 b2 b3 b4 hrow hb hx ow gw gU
      gi_wp2
      go_roundw
      case rel =>
        refine ⟨k + 1, by omega, by go_num, ?_, ?_⟩
        · exact (HG.out.setCell (p := ⟨W.heap.size, 0, none⟩) (Nat.le_refl _) _).setCell (p := ⟨W.heap.size, 1, none⟩) (Nat.le_refl _) _
        · rw [HE1.out, HE2.out]
          exact (HO.out.set (i := 0) (v := .int .i64 (sumLo (l.take k) + x.wl)) (by simp)).set (i := 1) (v := .int .i64 (sumHi (l.take k) + x.wh)) (by simp)
      case measure => simp [intOf]; omega
    · obtain rfl : k = l.length := by omega
      rw [List.take_length] at ow
      have q0 := (hb.keep gw).1.c1
      have hd0 : l.drop 0 = l := rfl
      clear hlt hk
      have HQ := Lib.hid hb
      have HR := Lib.hid hrow
      have hL0 : W.heap.size < wr.heap.size := ow.1.1
      have kW : Kx Z0 w0 wr := hk0.th (Kx.gr (Z := noBlock) gw) (fun _ e => e.elim)
      have hw0 : w0.heap.size ≤ W.heap.size := hk0.size
      have jW : J [] X0 (fun i => i = W.heap.size) wr := HJ.out [] X0 _ _ _ _ H0.out (Kx.gr gw) (fun i e => .inr (by omega))
      have xW : ∀ i, X0 i → i < wr.heap.size ∧ (Z0 i ∨ w0.heap.size ≤ i) := fun i e => ⟨by have := (HX0.out i e).1; omega, (HX0.out i e).2⟩
      have nW : ¬ X0 W.heap.size := fun e => by have := (HX0.out _ e).1; omega
      have HKW := Lib.hid kW
      have HJW := Lib.hid jW
      have HXW := Lib.hid xW
      clear hb hrow gw kW jW xW gA oL hk0
      gi_wp2
      clear q0
      gi_loopw [32] (fun i wr' => ∃ k : Nat, k ≤ l.length ∧ i = .int .i64 k ∧ ∃ pre X, pre = (loadsL l).take k ∧ J pre X (fun i => i = W.heap.size) wr' ∧ (∀ i, X i → i < wr'.heap.size ∧ (Z0 i ∨ w0.heap.size ≤ i)) ∧ ¬ X W.heap.size ∧ Kx Z0 w0 wr' ∧ Own wr' W.heap.size [.int .i64 (sumLo (l.drop k)), .int .i64 (sumHi (l.drop k))]) (fun i _ => l.length - (intOf i).toNat)
      case atStart => exact ⟨0, Nat.zero_le _, rfl, [], X0, rfl, HJW.out, HXW.out, nW, HKW.out, by rw [hd0]; exact ow⟩
      case round =>
        rename World => V
        obtain ⟨k, hk, rfl, pre, X, hpre, hj, hX, hXn, hkV, oV⟩ := hrel
        by_cases hlt : k < l.length
        · obtain ⟨x, hx⟩ : ∃ x, l[k]? = some x := ⟨l[k], by simp [hlt]⟩
          obtain ⟨_, hrV⟩ := HS.out V hkV
          obtain ⟨c, off, rfl, hc, r0, r1, r2, r3⟩ := LRow.get hrV hx
          obtain ⟨e1, e2⟩ := sum_drop hx
          obtain ⟨t1, t2, t3, t4⟩ := sum_bd (l := l.drop (k + 1)) (fun y hy => HB.out y (List.mem_of_mem_drop hy))
          have t5 : (l.drop (k + 1)).length ≤ 1000 := by simp; omega
          obtain ⟨b1, b2, b3, b4⟩ := HB.out x (List.mem_of_getElem? hx)
          obtain ⟨A, hA⟩ : ∃ A, sumLo (l.drop (k + 1)) = A := ⟨_, rfl⟩
          obtain ⟨B, hBB⟩ : ∃ B, sumHi (l.drop (k + 1)) = B := ⟨_, rfl⟩
          rw [hA] at e1 t1 t2
          rw [hBB] at e2 t3 t4
          rw [e1, e2] at oV
          have v0 : IntKind.i64.wrap (x.wl + A - x.wl) = A := by rw [show x.wl + A - x.wl = A by omega]; exact IntWalk.i64_in _ (by omega)
          have v1 : IntKind.i64.wrap (x.wh + B - x.wh) = B := by rw [show x.wh + B - x.wh = B by omega]; exact IntWalk.i64_in _ (by omega)
          have gU := Gr.al V (.cells #[.int .i64 x.sl, .int .i64 x.sh, .int .i64 x.wl, .int .i64 x.wh] 70)
          have oU := oV.keep gU
          obtain ⟨p0, p1⟩ := oU.1.c2
          have z0 := oU.2 0
          have z1 := oU.2 1
          obtain ⟨s0, s1, s2, s3⟩ := (Box.new V [.int .i64 x.sl, .int .i64 x.sh, .int .i64 x.wl, .int .i64 x.wh] 70 V.heap.size rfl).c4'
          have n1 : ¬ V.heap.size = W.heap.size := by have := oV.1.1; omega
          have n2 : ¬ W.heap.size = V.heap.size := by omega
          have oE : Own (((V.alloc (.cells #[.int .i64 x.sl, .int .i64 x.sh, .int .i64 x.wl, .int .i64 x.wh] 70)).setCell ⟨W.heap.size, 0, none⟩ (.int .i64 A)).setCell ⟨W.heap.size, 1, none⟩ (.int .i64 B)) W.heap.size [.int .i64 A, .int .i64 B] :=
            (oU.set (i := 0) (v := .int .i64 A) (by simp)).set (i := 1) (v := .int .i64 B) (by simp)
          have kE : Kx (fun i => i = W.heap.size) V (((V.alloc (.cells #[.int .i64 x.sl, .int .i64 x.sh, .int .i64 x.wl, .int .i64 x.wh] 70)).setCell ⟨W.heap.size, 0, none⟩ (.int .i64 A)).setCell ⟨W.heap.size, 1, none⟩ (.int .i64 B)) :=
            (Kx.al (fun i => i = W.heap.size) V _).tr ((Kx.set (Z := fun i => i = W.heap.size) (p := ⟨W.heap.size, 0, none⟩) rfl _).tr (Kx.set (Z := fun i => i = W.heap.size) (p := ⟨W.heap.size, 1, none⟩) rfl _))
          obtain ⟨E, hE⟩ : ∃ E, (((V.alloc (.cells #[.int .i64 x.sl, .int .i64 x.sh, .int .i64 x.wl, .int .i64 x.wh] 70)).setCell ⟨W.heap.size, 0, none⟩ (.int .i64 A)).setCell ⟨W.heap.size, 1, none⟩ (.int .i64 B)) = E := ⟨_, rfl⟩
          rw [hE] at oE kE
          have jE : J pre X (fun i => i = W.heap.size) E := HJ.out pre X _ _ _ _ hj kE (fun i e => .inl e)
          obtain ⟨fn, tmps, assign, body, hy, hRR⟩ := HY.out pre (k, A, B) X _ E jE (by rw [← hA, ← hBB]; exact ⟨List.mem_map.2 ⟨k, List.mem_range.2 hlt, rfl⟩, by rw [hpre]; simp [loadsL]; omega⟩) ⟨fun i e => by have := (hX i e).1; have := kE.size; omega, fun i e => by have := oE.1.1; omega, fun i e e' => hXn (e' ▸ e)⟩
          dsimp only [encO] at hy
          obtain ⟨p2, p3⟩ := oE.1.c2
          have sE := kE.size
          have lV := Lib.hid oV.1.1
          have HOE := Lib.hid oE
          have HKE := Lib.hid kE
          have HX := Lib.hid hX
          have HKV := Lib.hid hkV
          have HA := Lib.hid hA
          have HBB := Lib.hid hBB
          have HP := Lib.hid hpre
          clear e1 e2 oU oV t1 t2 t3 t4 t5 b1 b2 b3 b4 hx hj hX hkV oE kE jE hA hBB hpre hrV
          subst hE
          gi_wp2
          refine hRR.mono ?_
          clear hRR hy p0 p1 p2 p3 z0 z1 s0 s1 s2 s3 r0 r1 r2 r3
          rintro e W3 ⟨hk3, (⟨rfl, X', hJ3, hX3⟩ | ⟨rfl, hJx3⟩)⟩
          · have oW3 := HOE.out.kx hk3 hXn
            have HJ3 := Lib.hid hJ3
            have HX3 := Lib.hid hX3
            have Hk3 := Lib.hid hk3
            have HO3 := Lib.hid oW3
            clear hJ3 hX3 hk3 oW3
            gi_wp2
            go_roundw
            case rel =>
              have hw := HKV.out.size
              refine ⟨k + 1, by omega, by go_num, _, X', ?_, HJ3.out, fun i e => ⟨(HX3.out i e).1, ?_⟩, fun e => ?_, (HKV.out.th HKE.out fun i e => .inr (by omega)).th Hk3.out fun i e => (HX.out i e).2, ?_⟩
              · rw [loadsL_take hlt, HA.out, HBB.out, HP.out]
              · rcases (HX3.out i e).2 with h | h
                · exact (HX.out i h).2
                · exact .inr (by omega)
              · rcases (HX3.out _ e).2 with h | h
                · exact hXn h
                · have := lV.out
                  omega
              · rw [HA.out, HBB.out]
                exact HO3.out
            case measure => simp [intOf]; omega
          · gi_wp2
            refine bodyPost_ret (results_none rfl _ _ _) rfl ?_
            refine ⟨⟨_, rfl⟩, .inr ⟨_, _, ⟨k + 1, by omega, ?_⟩, hJx3⟩⟩
            rw [loadsL_take hlt, HA.out, HBB.out, HP.out]
        · obtain rfl : k = l.length := by omega
          gi_wp2
          go_end0
          refine ⟨⟨_, rfl⟩, .inl ⟨pre, X, _, ?_, hj⟩⟩
          rw [hpre, show l.length = (loadsL l).length by simp [loadsL], List.take_length]

end Go.Proofs.Ytcdilmagcdbogaa

namespace Go.Proofs.Ytcdilmagcdbogaa
set_option linter.unusedVariables false
set_option linter.unusedSimpArgs false
open Go.RowKit Go.Shelf
attribute [local go_sem] Oper.semAt_some

def membTo (s k : Nat) : List Nat := (List.range k).filter (fun i => s.testBit i)

/-- The numbers of a set. -/
def membL (s : Nat) : List Nat := membTo s 10

def encM (x : Nat) : Array Value := #[.int .i64 (x : Int)]

theorem membTo_succ (s k : Nat) : membTo s (k + 1) = if s.testBit k = true then membTo s k ++ [k] else membTo s k := by
  unfold membTo
  rw [List.range_succ, List.filter_append]
  cases h : s.testBit k <;> simp [h]

theorem membTo_len (s k : Nat) : (membTo s k).length ≤ k := by
  have := List.length_filter_le (fun i => s.testBit i) (List.range k)
  simpa [membTo] using this

theorem bit_zero {s k i : Nat} (h : s / 2 ^ k = 0) (hi : k ≤ i) : s.testBit i = false := by
  have h1 : s < 2 ^ k := by
    rcases Nat.lt_or_ge s (2 ^ k) with h2 | h2
    · exact h2
    · have := Nat.div_pos h2 (Nat.two_pow_pos k)
      omega
  exact Nat.testBit_lt_two_pow (Nat.lt_of_lt_of_le h1 (Nat.pow_le_pow_right (by decide) hi))

theorem membTo_end {s k : Nat} (h : s / 2 ^ k = 0) : ∀ n, membTo s (k + n) = membTo s k
  | 0 => rfl
  | n + 1 => by
    rw [show k + (n + 1) = (k + n) + 1 by omega, membTo_succ, bit_zero h (by omega)]
    simpa using membTo_end h n

theorem membL_end {s k : Nat} (h : s / 2 ^ k = 0) (hk : k ≤ 10) : membTo s k = membL s := by
  have := membTo_end h (10 - k)
  rw [show k + (10 - k) = 10 by omega] at this
  exact this.symm

theorem bit_and {s k Q : Nat} (hs : s < 1024) (hQ : s / 2 ^ k = Q) : bits .and .i64 (Q : Int) 1 = if s.testBit k = true then 1 else 0 := by
  have h1 : Q ≤ s := by rw [← hQ]; exact Nat.div_le_self _ _
  have h := bits_mask .i64 62 (by decide) (fun n h0 h1 => IntWalk.i64_in n (by omega)) 1 (by decide) (Q : Int) (by omega) (by omega)
  rw [show (2 : Int) ^ 1 - 1 = 1 by decide, show (2 : Int) ^ 1 = 2 by decide] at h
  rw [h, Nat.testBit_eq_decide_div_mod_eq, hQ]
  have h2 : Q % 2 = 0 ∨ Q % 2 = 1 := by omega
  rcases h2 with h2 | h2
  · rw [if_neg (by simp [h2])]; omega
  · rw [if_pos (by simp [h2])]; omega

theorem shr_nat (s k : Nat) : (s : Int) / 2 ^ k = ((s / 2 ^ k : Nat) : Int) := by
  rw [Int.natCast_ediv]
  simp

set_option maxRecDepth 100000 in
set_option maxHeartbeats 2000000 in
theorem members_seq (n : Nat) (hn : 1 ≤ n) (b : Nat) (s : Nat) (hs : s < 1024)
    (Z0 : Nat → Prop) (w0 : World) (hst : St Z0 (fun V => Own V b [.int .i64 (s : Int)]) w0) :
    SeqX Fence.wide n Try.prog 148 #[.pointer (some ⟨b, 0, none⟩)] encM (fun pre _ x _ => x < 10 ∧ s.testBit x = true ∧ pre.length ≤ x) (fun xs => xs = membL s) (fun pre => ∃ k, k ≤ 10 ∧ pre = membTo s k) Z0 w0 := by
  intro i0 J Jx X0 W hk0 hX0 hJ hJx hY h0
  refine callsIn_of_wp Try.func148 rfl trivial ?_ rfl
  simp only [Try.ntmps148, List.size_toArray, List.length_cons, List.length_nil, Nat.reduceAdd, Nat.reduceSub, Array.replicate_succ, Array.replicate_zero, List.push_toArray, List.append_toArray, List.nil_append, List.cons_append]
  have HY := Lib.hid hY
  have HJ := Lib.hid hJ
  have HS := Lib.hid hst
  have H0 := Lib.hid h0
  have HK := Lib.hid hk0
  have HX0 := Lib.hid hX0
  clear hY hJ hX0 hst hJx h0 hk0
  gi_wp2
  gi_loopw [3] (fun i wr => ∃ k : Nat, k ≤ 10 ∧ i = .int .i64 k ∧ ∃ X, J (membTo s k) X noBlock wr ∧ (∀ i, X i → i < wr.heap.size ∧ (Z0 i ∨ w0.heap.size ≤ i)) ∧ Kx Z0 w0 wr) (fun i _ => 10 - (intOf i).toNat)
  case atStart => exact ⟨0, Nat.zero_le _, rfl, X0, H0.out, HX0.out, HK.out⟩
  case round =>
    obtain ⟨k, hk, rfl, X, hj, hX, hkV⟩ := hrel
    have d1 := HS.out wr hkV
    have q := d1.1.c1
    have e0 := shr_nat s k
    obtain ⟨Q, hQ⟩ : ∃ Q, s / 2 ^ k = Q := ⟨_, rfl⟩
    have hb := bit_and hs hQ
    rw [hQ] at e0
    have HX := Lib.hid hX
    have HKV := Lib.hid hkV
    have D1 := Lib.hid d1
    clear hX hkV d1
    by_cases h0 : Q = 0
    · subst h0
      have HE := Lib.hid (membL_end hQ hk)
      clear hb hQ
      gi_wp2
      go_end0
      exact ⟨⟨_, rfl⟩, .inl ⟨X, _, by rw [← HE.out]; exact hj⟩⟩
    · have hk9 : k < 10 := by
        rcases Nat.lt_or_ge k 10 with h | h
        · exact h
        · exfalso
          obtain rfl : k = 10 := by omega
          apply h0
          rw [← hQ]
          exact Nat.div_eq_of_lt (by omega)
      have hM := membTo_succ s k
      have HQ' := Lib.hid hQ
      cases ht : s.testBit k with
      | false =>
        rw [ht] at hb hM
        rw [if_neg (by decide)] at hb hM
        have HM := Lib.hid hM
        clear hM ht hQ
        gi_wp2
        refine ⟨fun f e => (by cases e), ?_⟩
        gi_wp2
        go_roundw
        case rel => exact ⟨k + 1, by omega, by go_num, X, by rw [HM.out]; exact hj, HX.out, HKV.out⟩
        case measure => simp [intOf]; omega
      | true =>
        rw [ht] at hb hM
        rw [if_pos rfl] at hb hM
        have HM := Lib.hid hM
        obtain ⟨fn, tmps, assign, body, hy, hRR⟩ := HY.out (membTo s k) k X noBlock wr hj ⟨hk9, ht, membTo_len s k⟩ ⟨fun i e => (HX.out i e).1, fun i e => e.elim, fun i e e' => e'⟩
        dsimp only [encM] at hy
        clear hM ht hQ hj
        gi_wp2
        refine hRR.mono ?_
        clear hRR hy
        rintro e W3 ⟨hk3, (⟨rfl, X', hJ3, hX3⟩ | ⟨rfl, hJx3⟩)⟩
        · have HJ3 := Lib.hid hJ3
          have HX3 := Lib.hid hX3
          have Hk3 := Lib.hid hk3
          clear hJ3 hX3 hk3
          gi_wp2
          go_roundw
          case rel =>
            have hw := HKV.out.size
            refine ⟨k + 1, by omega, by go_num, X', by rw [HM.out]; exact HJ3.out, fun i e => ⟨(HX3.out i e).1, ?_⟩, HKV.out.th Hk3.out fun i e => (HX.out i e).2⟩
            rcases (HX3.out i e).2 with h | h
            · exact (HX.out i h).2
            · exact .inr (by omega)
          case measure => simp [intOf]; omega
        · gi_wp2
          refine bodyPost_ret (results_none rfl _ _ _) rfl ?_
          exact ⟨⟨_, rfl⟩, .inr ⟨_, _, ⟨k + 1, by omega, HM.out.symm⟩, hJx3⟩⟩

end Go.Proofs.Ytcdilmagcdbogaa

namespace Go.Proofs.Ytcdilmagcdbogaa
set_option linter.unusedVariables false
set_option linter.unusedSimpArgs false
open Go.RowKit

section
variable {P : Program} {ops : Array Oper} {Q : Exit → Act → World → Prop} {md : Region.Mode} {S : World → Prop}

/-- So many operations come up, all of them before number n, in whatever order; behind each S holds, behind the last one L. -/
def wpHead (P : Program) (md : Region.Mode) (ops : Array Oper) (Q : Exit → Act → World → Prop) (S : World → Prop) (n : Nat) (L : Array Bool → Act → World → Prop) : Nat → Array Bool → Act → World → Prop
  | 0, listed, a, w => L listed a w
  | f + 1, listed, a, w => Region.ready md ops listed ≠ [] ∧ ∀ i ∈ Region.ready md ops listed, i < n ∧ wpOp P ops Q i (fun a' w' => S w' ∧ wpHead P md ops Q S n L f (listed.setIfInBounds i true) a' w') a w

theorem wpAny_of_wpHead {n g : Nat} {L : Array Bool → Act → World → Prop} (hL : ∀ listed a w, L listed a w → wpAny P md ops Q g listed a w) :
    ∀ (f : Nat) (listed : Array Bool) (a : Act) (w : World), wpHead P md ops Q S n L f listed a w → wpAny P md ops Q (f + g) listed a w
  | 0, _, _, _, h => by rw [Nat.zero_add]; exact hL _ _ _ h
  | f + 1, _, _, _, h => by
    rw [show f + 1 + g = (f + g) + 1 by omega]
    exact ⟨fun h0 => absurd h0 h.1, fun i hi => wpOp_mono (fun a' w' h' => wpAny_of_wpHead hL f _ a' w' h'.2) (h.2 i hi).2⟩

theorem wpHead_first {n i : Nat} {oi : Oper} {v : Value} {L : Array Bool → Act → World → Prop} (hi : ops[i]? = some oi) (hsel : ∀ (j : Nat) (o : Oper) cs b, ops[j]? = some o → o.op ≠ .select cs b)
    (hs : Region.sinkB md ops n = true) (hc : Region.chainB md ops n = true) (hn : n < ops.size) (hin : i < n) (hQ : ∀ c a w, Q (.panic c) (a.put oi.dst v) w → Q (.panic c) a w)
    (hdone : ∀ listed a w, L listed a w → ∀ j ∈ Region.ready md ops listed, n ≤ j) :
    ∀ (f : Nat) (listed : Array Bool) (a : Act) (w : World), HeadInv md ops n listed →
      (∀ j oj, ops[j]? = some oj → j ≠ i → listed.getD j true = false → (∀ e ∈ oj.after, Region.binds md e = true → e.on ≠ i) → oi.apart ops oj = true) →
      i ∈ Region.ready md ops listed → YieldsIf P ops S oi v a → S w →
      wpHead P md ops Q S n L f (listed.setIfInBounds i true) (a.put oi.dst v) w → wpHead P md ops Q S n L (f + 1) listed a w := by
  intro f
  induction f with
  | zero =>
    intro listed a w inv _ hr hy hS H
    have hun := (mem_ready.1 hr).1
    refine ⟨fun h => (by rw [h] at hr; cases hr), fun j hj => ?_⟩
    have hjn : j < n := by
      rcases Nat.lt_or_ge j n with h | h
      · exact h
      · exact absurd hj (tail_waits hs hc hn inv _ i rfl hin hun j h)
    refine ⟨hjn, ?_⟩
    by_cases hji : j = i
    · subst hji; exact hy.wpOp hi hS ⟨hS, H⟩
    · have := hdone _ _ _ H j (ready_mono hj hji)
      omega
  | succ f ih =>
    intro listed a w inv hfree hr hy hS H
    have hun := (mem_ready.1 hr).1
    refine ⟨fun h => (by rw [h] at hr; cases hr), fun j hj => ?_⟩
    have hjn : j < n := by
      rcases Nat.lt_or_ge j n with h | h
      · exact h
      · exact absurd hj (tail_waits hs hc hn inv _ i rfl hin hun j h)
    refine ⟨hjn, ?_⟩
    by_cases hji : j = i
    · subst hji; exact hy.wpOp hi hS ⟨hS, H⟩
    · have h1 := (H.2 j (ready_mono hj hji)).2
      obtain ⟨hjun, oj, hoj, hall⟩ := mem_ready.1 hj
      have hnot : ∀ e ∈ oj.after, Region.binds md e = true → e.on ≠ i := fun e he hb heq => by
        have h1 := hall e he hb
        rw [heq, getD_both hun] at h1
        cases h1
      have h2 := wpOp_putIf hoj (hfree j oj hoj hji hjun hnot) (fun cs b => hsel i oi cs b hi) (fun cs b => hsel j oj cs b hoj) hQ hy h1
      have hfree' : ∀ k ok, ops[k]? = some ok → k ≠ i → (listed.setIfInBounds j true).getD k true = false →
          (∀ e ∈ ok.after, Region.binds md e = true → e.on ≠ i) → oi.apart ops ok = true := fun k ok hk hki hun hno => by
        refine hfree k ok hk hki ?_ hno
        by_cases hjk : j = k
        · subst hjk; exact hjun
        · rw [getD_set_ne true hjk] at hun; exact hun
      refine wpOp_mono (fun a' w' h3 => ⟨h3.2.1, ih (listed.setIfInBounds j true) a' w' (inv.set hj hjn) hfree' (ready_mono hr (Ne.symm hji)) h3.1 h3.2.1 ?_⟩) h2
      rw [Array.setIfInBounds_comm _ _ hji]
      exact h3.2.2

/-- The walk in an order of ours: (i, true): a read; (i, false): all else. -/
def wpOrd (P : Program) (ops : Array Oper) (Q : Exit → Act → World → Prop) (S : World → Prop) (L : Act → World → Prop) : List (Nat × Bool) → Act → World → Prop
  | [], a, w => L a w
  | (i, true) :: r, a, w => ∃ o v, ops[i]? = some o ∧ YieldsIf P ops S o v a ∧ (∀ c a w, Q (.panic c) (a.put o.dst v) w → Q (.panic c) a w) ∧ wpOrd P ops Q S L r (a.put o.dst v) w
  | (i, false) :: r, a, w => wpOp P ops Q i (fun a' w' => S w' ∧ wpOrd P ops Q S L r a' w') a w

def ordB (md : Region.Mode) (ops : Array Oper) (n : Nat) : List (Nat × Bool) → Array Bool → Bool
  | [], listed => Region.seqB md ops (ops.size - n) n listed
  | (i, true) :: r, listed => decide (i < n) && (Region.ready md ops listed).contains i && Region.free md ops listed i && ordB md ops n r (listed.setIfInBounds i true)
  | (i, false) :: r, listed => decide (i < n) && decide (Region.ready md ops listed = [i]) && ordB md ops n r (listed.setIfInBounds i true)

theorem wpHead_ord {n : Nat} {L : Act → World → Prop} (hsel : Region.noSelect ops = true) (hs : Region.sinkB md ops n = true) (hc : Region.chainB md ops n = true) (hn : n < ops.size) :
    ∀ (l : List (Nat × Bool)) (listed : Array Bool) (a : Act) (w : World), HeadInv md ops n listed → ordB md ops n l listed = true → S w → wpOrd P ops Q S L l a w →
    wpHead P md ops Q S n (fun listed' a' w' => Region.seqB md ops (ops.size - n) n listed' = true ∧ L a' w') l.length listed a w
  | [], _, _, _, _, hB, _, h => ⟨hB, h⟩
  | (i, true) :: r, listed, a, w, inv, hB, hS, h => by
    simp only [ordB, Bool.and_eq_true, decide_eq_true_eq] at hB
    obtain ⟨⟨⟨hin, hr⟩, hf⟩, hB'⟩ := hB
    obtain ⟨o, v, ho, hy, hQ, hK⟩ := h
    have hr' : i ∈ Region.ready md ops listed := by simpa using hr
    exact wpHead_first ho (Region.noSelect_spec hsel) hs hc hn hin hQ (fun listed' a' w' hL => seqB_ready hL.1) r.length listed a w inv (Region.free_spec ho hf) hr' hy hS
      (wpHead_ord hsel hs hc hn r _ _ w (inv.set hr' hin) hB' hS hK)
  | (i, false) :: r, listed, a, w, inv, hB, hS, h => by
    simp only [ordB, Bool.and_eq_true, decide_eq_true_eq] at hB
    obtain ⟨⟨hin, hr⟩, hB'⟩ := hB
    refine ⟨by rw [hr]; simp, fun j hj => ?_⟩
    have hj' : j = i := by rw [hr] at hj; simpa using hj
    subst hj'
    exact ⟨hin, wpOp_mono (fun a' w' h' => ⟨h'.1, wpHead_ord hsel hs hc hn r _ a' w' (inv.set hj hin) hB' h'.1 h'.2⟩) h⟩

theorem wp_region_ord {id : Nat} {a : Act} {w : World} {l : List Oper} (S : World → Prop) (n : Nat) (ord : List (Nat × Bool)) (hm : P.follows .mixedOrders = true)
    (hB : (Region.noSelect l.toArray && decide (n < l.toArray.size) && Region.sinkB .any l.toArray n && Region.chainB .any l.toArray n && decide (ord.length = n) && ordB .any l.toArray n ord (Array.replicate l.toArray.size false)) = true)
    (hS : S w.drew) (h : wpOrd P l.toArray Q S (fun a' w' => wpList P l.toArray Q (l.drop n) a' w') ord a w.drew) : (Code.region id l.toArray true).wp P Q a w := by
  simp only [Bool.and_eq_true, decide_eq_true_eq] at hB
  obtain ⟨⟨⟨⟨⟨hsel, hn⟩, hs⟩, hc⟩, hlen⟩, hord⟩ := hB
  have hn' : n < l.length := by simpa using hn
  have hdl : (l.drop n).length = l.toArray.size - n := by simp
  have inv0 : HeadInv .any l.toArray n (Array.replicate l.toArray.size false) :=
    ⟨by simp, fun j oj _ hl => (by rw [getD_replicate_false] at hl; cases hl), fun t _ ht => getD_in (by simpa using ht) (getD_replicate_false _ _)⟩
  have H := wpHead_ord (md := .any) (Q := Q) (S := S) hsel hs hc hn ord _ a w.drew inv0 hord hS h
  refine wp_region_any hm ?_
  have := wpAny_of_wpHead (g := l.toArray.size - n) (fun listed a' w' hL => by
    have := wpAny_of_seq (md := .any) (Q' := Q) (l.drop n) n listed a' w' (fun j => by simp [List.getElem?_drop]) (by rw [hdl]; exact hL.1) hL.2
    rwa [hdl] at this) _ _ _ _ H
  rw [hlen, show n + (l.toArray.size - n) = l.toArray.size by omega] at this
  exact this

end

end Go.Proofs.Ytcdilmagcdbogaa

namespace Go.Proofs.Ytcdilmagcdbogaa
set_option linter.unusedVariables false
set_option linter.unusedSimpArgs false
open Go.RowKit

section
variable {P : Program} {ops : Array Oper} {Q : Exit → Act → World → Prop} {md : Region.Mode}

/-- How many of the first operations have not come up. -/
def remN (listed : Array Bool) : Nat → Nat
  | 0 => 0
  | k + 1 => remN listed k + if listed.getD k true = false then 1 else 0

theorem getD_set_eq (listed : Array Bool) {i : Nat} (h : listed.getD i true = false) : (listed.setIfInBounds i true).getD i true = true := by
  have hi : i < listed.size := by
    rcases Nat.lt_or_ge i listed.size with h' | h'
    · exact h'
    · simp [Array.getElem?_eq_none h'] at h
  simp [hi]

theorem remN_past (listed : Array Bool) (i : Nat) : ∀ k, k ≤ i → remN (listed.setIfInBounds i true) k = remN listed k
  | 0, _ => rfl
  | k + 1, h => by
    unfold remN
    rw [remN_past listed i k (by omega), getD_set_ne true (show i ≠ k by omega)]

theorem remN_set (listed : Array Bool) {i : Nat} (hi : listed.getD i true = false) : ∀ k, i < k → remN (listed.setIfInBounds i true) k + 1 = remN listed k
  | 0, h => by omega
  | k + 1, h => by
    unfold remN
    by_cases e : i = k
    · subst e
      rw [remN_past listed i i (Nat.le_refl _), getD_set_eq listed hi, hi]
      simp
    · have := remN_set listed hi k (by omega)
      rw [getD_set_ne true (show i ≠ k from e)]
      omega

theorem remN_zero {listed : Array Bool} : ∀ k, remN listed k = 0 → ∀ j, j < k → listed.getD j true = true
  | 0, _, j, h => by omega
  | k + 1, h0, j, hj => by
    unfold remN at h0
    by_cases e : j = k
    · subst e
      cases h : listed.getD j true with
      | true => rfl
      | false => simp [h] at h0
    · exact remN_zero k (by omega) j (by omega)

theorem remN_full (s : Nat) : ∀ k, k ≤ s → remN (Array.replicate s false) k = k
  | 0, _ => rfl
  | k + 1, h => by
    unfold remN
    rw [remN_full s k (by omega), if_pos (getD_in (by simp only [Array.size_replicate]; omega) (getD_replicate_false _ _))]

theorem first_unlisted (listed : Array Bool) : ∀ m, (∀ j, j < m → listed.getD j true = true) ∨ ∃ i, i < m ∧ listed.getD i true = false ∧ ∀ j, j < i → listed.getD j true = true
  | 0 => .inl (fun j h => by omega)
  | m + 1 => by
    rcases first_unlisted listed m with h | ⟨i, hi, h0, h1⟩
    · cases e : listed.getD m true with
      | true => exact .inl (fun j hj => by
          by_cases ej : j = m
          · subst ej; exact e
          · exact h j (by omega))
      | false => exact .inr ⟨m, by omega, e, h⟩
    · exact .inr ⟨i, by omega, h0, h1⟩

/-- Each of the first n operations waits only for ones before it. -/
def minB (md : Region.Mode) (ops : Array Oper) (n : Nat) : Bool :=
  (List.range n).all fun i => match ops[i]? with
    | none => true
    | some o => o.after.all fun e => !(Region.binds md e) || decide (e.on < i)

theorem minB_spec {n : Nat} (h : minB md ops n = true) {i : Nat} {o : Oper} (hi : i < n) (ho : ops[i]? = some o) {e} (he : e ∈ o.after) (hb : Region.binds md e = true) : e.on < i := by
  have := List.all_eq_true.1 h i (by simpa using hi)
  rw [ho] at this
  simp only [Array.all_eq_true'] at this
  have := this e he
  simpa [hb] using this

theorem wpAny_inv {n g : Nat} (hs : Region.sinkB md ops n = true) (hc : Region.chainB md ops n = true) (hn : n < ops.size) (hm : minB md ops n = true) (J : Array Bool → Act → World → Prop)
    (hstep : ∀ i o, i < n → ops[i]? = some o → ∀ listed a w, listed.size = ops.size → listed.getD i true = false → (∀ e ∈ o.after, Region.binds md e = true → listed.getD e.on false = true) → J listed a w → wpOp P ops Q i (fun a' w' => J (listed.setIfInBounds i true) a' w') a w)
    (hend : ∀ listed a w, HeadInv md ops n listed → (∀ j, j < n → listed.getD j true = true) → J listed a w → wpAny P md ops Q g listed a w) :
    ∀ (f : Nat) (listed : Array Bool) (a : Act) (w : World), HeadInv md ops n listed → remN listed n = f → J listed a w → wpAny P md ops Q (f + g) listed a w
  | 0, listed, a, w, inv, hf, hJ => by
    rw [Nat.zero_add]
    exact hend listed a w inv (remN_zero n hf) hJ
  | f + 1, listed, a, w, inv, hf, hJ => by
    rcases first_unlisted listed n with h | ⟨i, hi, h0, h1⟩
    · have : remN listed n = 0 := by
        clear hf inv hJ hend hstep hs hc hn hm
        induction n with
        | zero => rfl
        | succ k ih =>
          unfold remN
          rw [ih (fun j hj => h j (by omega)), h k (by omega)]
          simp
      omega
    · have hlt : i < ops.size := by omega
      have hready : i ∈ Region.ready md ops listed := by
        refine mem_ready.2 ⟨h0, ops[i], Array.getElem?_eq_getElem hlt, fun e he hb => ?_⟩
        have hlt' := minB_spec hm hi (Array.getElem?_eq_getElem hlt) he hb
        have h2 := h1 e.on hlt'
        have : e.on < listed.size := by rw [inv.size]; omega
        simp [this] at h2 ⊢
        exact h2
      rw [show f + 1 + g = (f + g) + 1 by omega]
      refine ⟨fun hnil => (by rw [hnil] at hready; cases hready), fun j hj => ?_⟩
      have hjn : j < n := by
        rcases Nat.lt_or_ge j n with h | h
        · exact h
        · exact absurd hj (tail_waits hs hc hn inv _ i rfl hi h0 j h)
      obtain ⟨hj0, o, ho, hdep⟩ := mem_ready.1 hj
      refine wpOp_mono (fun a' w' h' => ?_) (hstep j o hjn ho listed a w inv.size hj0 hdep hJ)
      exact wpAny_inv hs hc hn hm J hstep hend f _ a' w' (inv.set hj hjn) (by have := remN_set listed hj0 n hjn; omega) h'

/-- So many of its waits, told as pairs. -/
def depB (md : Region.Mode) (ops : Array Oper) (ds : List (Nat × Nat)) : Bool :=
  ds.all fun p => match ops[p.1]? with
    | none => false
    | some o => o.after.any fun e => Region.binds md e && decide (e.on = p.2)

theorem depB_spec {ds : List (Nat × Nat)} (h : depB md ops ds = true) {i j : Nat} (hij : (i, j) ∈ ds) {o : Oper} (ho : ops[i]? = some o) : ∃ e ∈ o.after, Region.binds md e = true ∧ e.on = j := by
  have := List.all_eq_true.1 h _ hij
  simp only [ho] at this
  obtain ⟨e, he, hh⟩ := Array.any_eq_true'.1 this
  simp only [Bool.and_eq_true, decide_eq_true_eq] at hh
  exact ⟨e, he, hh.1, hh.2⟩

theorem wp_region_inv {id : Nat} {a : Act} {w : World} {l : List Oper} (n : Nat) (J : Array Bool → Act → World → Prop) (hm : P.follows .mixedOrders = true)
    (hB : (decide (n < l.toArray.size) && Region.sinkB .any l.toArray n && Region.chainB .any l.toArray n && minB .any l.toArray n && Region.seqB .any l.toArray (l.toArray.size - n) n (Array.replicate n true ++ Array.replicate (l.toArray.size - n) false)) = true)
    (hJ : J (Array.replicate l.toArray.size false) a w.drew)
    (hstep : ∀ i o, i < n → l.toArray[i]? = some o → ∀ listed a w, listed.size = l.toArray.size → listed.getD i true = false → (∀ e ∈ o.after, Region.binds .any e = true → listed.getD e.on false = true) → J listed a w → wpOp P l.toArray Q i (fun a' w' => J (listed.setIfInBounds i true) a' w') a w)
    (hend : ∀ listed a w, listed.size = l.toArray.size → (∀ j, j < n → listed.getD j true = true) → J listed a w → wpList P l.toArray Q (l.drop n) a w) : (Code.region id l.toArray true).wp P Q a w := by
  simp only [Bool.and_eq_true, decide_eq_true_eq] at hB
  obtain ⟨⟨⟨⟨hn, hs⟩, hc⟩, hmin⟩, hseq⟩ := hB
  have hn' : n < l.length := by simpa using hn
  have hdl : (l.drop n).length = l.toArray.size - n := by simp
  have inv0 : HeadInv .any l.toArray n (Array.replicate l.toArray.size false) :=
    ⟨by simp, fun j oj _ hl => (by rw [getD_replicate_false] at hl; cases hl), fun t _ ht => getD_in (by simpa using ht) (getD_replicate_false _ _)⟩
  refine wp_region_any hm ?_
  have := wpAny_inv (md := .any) (g := l.toArray.size - n) (Q := Q) hs hc hn hmin J hstep (fun listed a' w' inv hall hJ' => by
    have e : listed = Array.replicate n true ++ Array.replicate (l.toArray.size - n) false := by
      apply Array.ext
      · rw [inv.size]; simp; omega
      · intro j h1 h2
        rcases Nat.lt_or_ge j n with h | h
        · have := hall j h
          simp [h1] at this
          rw [this, Array.getElem_append_left (by simpa using h)]
          simp
        · have := inv.tail j h (by rw [inv.size] at h1; exact h1)
          simp [h1] at this
          rw [this, Array.getElem_append_right (by simpa using h)]
          simp
    have h := wpAny_of_seq (md := .any) (Q' := Q) (l.drop n) n listed a' w' (fun j => by simp [List.getElem?_drop]) (by rw [hdl, e]; exact hseq) (hend listed a' w' inv.size hall hJ')
    rwa [hdl] at h) n (Array.replicate l.toArray.size false) a w.drew inv0 (remN_full _ n (by omega)) hJ
  rw [show n + (l.toArray.size - n) = l.toArray.size by omega] at this
  exact this

end

end Go.Proofs.Ytcdilmagcdbogaa

namespace Go.Proofs.Ytcdilmagcdbogaa
set_option linter.unusedVariables false
set_option linter.unusedSimpArgs false
open Go.RowKit

/-- The worlds that keep all that lies in W. -/
structure From (W : World) where
  val : World
  property : Gr W val

instance From.nonempty (W : World) : Nonempty (From W) := ⟨⟨W, Below.refl _ _⟩⟩

theorem wp_region_gr {P : Program} {id : Nat} {Q : Exit → Act → World → Prop} {a : Act} {W : World} {l : List Oper} (hm : P.follows .mixedOrders = true) (hB : Region.lexB .any l.toArray = true)
    (h : wpQuiet P l.toArray (fun w' => ∃ u : From W, w' = u.val) (fun a' => ∀ w', (∃ u : From W, w' = u.val) → Q .normal a' w') l a) : (Code.region id l.toArray true).wp P Q a W :=
  wp_region_quiet (C := fun w' => ∃ u : From W, w' = u.val) hm hB ⟨⟨W.drew, Gr.dr W⟩, rfl⟩ (by simpa using h)

/-- A callee's contract, met in whatever such world. -/
theorem Calls.gr {P : Program} {f : FuncId} {args : Array Value} {W : World} {u : From W} {v : Value} (h : Calls P f args u.val fun e w' => e = .returned v ∧ Gr u.val w') :
    Calls P f args u.val fun e w'' => e = .returned v ∧ ∃ u' : From W, w'' = u'.val :=
  h.mono fun _ w' ⟨he, hg⟩ => ⟨he, ⟨w', u.property.tr hg⟩, rfl⟩

theorem From.keep {W : World} {b o : Nat} {v : Value} (h : W.cell? ⟨b, o, none⟩ = some v) (u : From W) : u.val.cell? ⟨b, o, none⟩ = some v := u.property.keep h

end Go.Proofs.Ytcdilmagcdbogaa

namespace Go.Proofs.Ytcdilmagcdbogaa
set_option linter.unusedVariables false
set_option linter.unusedSimpArgs false
open Go.RowKit

theorem Box.c10 {w : World} {b : Nat} {x0 x1 x2 x3 x4 x5 x6 x7 x8 x9 : Value} (h : Box w b [x0, x1, x2, x3, x4, x5, x6, x7, x8, x9]) : w.cell? ⟨b, 0, none⟩ = some x0 ∧ w.cell? ⟨b, 1, none⟩ = some x1 ∧ w.cell? ⟨b, 2, none⟩ = some x2 ∧ w.cell? ⟨b, 3, none⟩ = some x3 ∧ w.cell? ⟨b, 4, none⟩ = some x4 ∧ w.cell? ⟨b, 5, none⟩ = some x5 ∧ w.cell? ⟨b, 6, none⟩ = some x6 ∧ w.cell? ⟨b, 7, none⟩ = some x7 ∧ w.cell? ⟨b, 8, none⟩ = some x8 ∧ w.cell? ⟨b, 9, none⟩ = some x9 :=
  ⟨h.2 0 x0 rfl, h.2 1 x1 rfl, h.2 2 x2 rfl, h.2 3 x3 rfl, h.2 4 x4 rfl, h.2 5 x5 rfl, h.2 6 x6 rfl, h.2 7 x7 rfl, h.2 8 x8 rfl, h.2 9 x9 rfl⟩

theorem Box.c7 {w : World} {b : Nat} {x0 x1 x2 x3 x4 x5 x6 : Value} (h : Box w b [x0, x1, x2, x3, x4, x5, x6]) : w.cell? ⟨b, 0, none⟩ = some x0 ∧ w.cell? ⟨b, 1, none⟩ = some x1 ∧ w.cell? ⟨b, 2, none⟩ = some x2 ∧ w.cell? ⟨b, 3, none⟩ = some x3 ∧ w.cell? ⟨b, 4, none⟩ = some x4 ∧ w.cell? ⟨b, 5, none⟩ = some x5 ∧ w.cell? ⟨b, 6, none⟩ = some x6 :=
  ⟨h.2 0 x0 rfl, h.2 1 x1 rfl, h.2 2 x2 rfl, h.2 3 x3 rfl, h.2 4 x4 rfl, h.2 5 x5 rfl, h.2 6 x6 rfl⟩


theorem span_any (a b : Int) (w : World) :
    Calls Try.prog 33 #[.int .i64 a, .int .i64 b] w fun e w' => e = .returned (.agg #[.int .i64 a, .int .i64 b]) ∧ Gr w w' := by
  go_enter Try.func33, Try.ntmps33
  go_wp2
  refine bodyPost_ret (v := .agg #[.int .i64 a, .int .i64 b]) (by simp [results, Try.results33, go_sem]) rfl ⟨rfl, Gr.al _ _⟩

/-- What a measure can truly be. -/
def nearL (off m lo hi : Int) : Sp := ⟨max lo (m - off), min hi (m + off)⟩

/-- How many calipers a measure loses. -/
def lostL (k : Int) (opn : Bool) : Int := if k = 4 ∧ opn = false then 2 else 1

end Go.Proofs.Ytcdilmagcdbogaa

namespace Go.Proofs.Ytcdilmagcdbogaa
set_option linter.unusedVariables false
set_option linter.unusedSimpArgs false
open Go.RowKit

def less1 (s x : Sp) : Sp := ⟨s.lo - x.hi, s.hi - x.lo⟩

def lessL (s : Sp) (l : List Sp) : Sp := l.foldl less1 s

def SpB (n : Int) (x : Sp) : Prop := -n ≤ x.lo ∧ x.lo ≤ n ∧ -n ≤ x.hi ∧ x.hi ≤ n

theorem less_take {s : Sp} {l : List Sp} {k : Nat} {x : Sp} (hx : l[k]? = some x) : lessL s (l.take (k + 1)) = less1 (lessL s (l.take k)) x := by
  unfold lessL
  rw [List.take_add_one, hx]
  simp

theorem less_bd {s : Sp} {l : List Sp} (hs : SpB 1000000000 s) (hl : ∀ x ∈ l, SpB 1000000000 x) : ∀ k : Nat, k ≤ l.length → SpB (1000000000 * (k + 1)) (lessL s (l.take k))
  | 0, _ => by simpa [lessL] using hs
  | k + 1, hk => by
    obtain ⟨x, hx⟩ := get_of_lt (show k < l.length by omega)
    obtain ⟨a1, a2, a3, a4⟩ := hl x (List.mem_of_getElem? hx)
    obtain ⟨b1, b2, b3, b4⟩ := less_bd hs hl k (by omega)
    rw [less_take hx]
    unfold SpB less1
    simp only
    refine ⟨by omega, by omega, by omega, by omega⟩

/-- What a flap can truly be: at the top (end 0), at the bottom (end 1). -/
def flapL (opn : Bool) (off : Int) (en : Nat) (v : Int) : Sp := if en = 0 ∧ opn = true then ⟨0, 0⟩ else nearL off v 0 3000

end Go.Proofs.Ytcdilmagcdbogaa

namespace Go.Proofs.Ytcdilmagcdbogaa
set_option linter.unusedVariables false
set_option linter.unusedSimpArgs false
open Go.RowKit

def goodP (p : Paper) : Bool :=
  (p.kind == 1 || p.kind == 2) && inB 1 1000 [p.weight] && okSpan 1 1000 p.tlo p.thi && okSpan 0 200 p.mlo p.mhi && inB 0 1000000 [p.price] && inB 0 10000 [p.strong]

set_option maxHeartbeats 2000000 in
theorem goodPaper1 (ki we tl th ml mh pr st : Int) (w : World) (k1 : (ki == 1) = true) :
    Calls Try.prog 150 #[.agg #[.int .i64 ki, .int .i64 we, .int .i64 tl, .int .i64 th, .int .i64 ml, .int .i64 mh, .int .i64 pr, .int .i64 st]] w fun e w' => e = .returned (.bool (goodP ⟨ki, we, tl, th, ml, mh, pr, st⟩)) ∧ Gr w w' := by
  have hb := Box.new w [.int .i64 ki, .int .i64 we, .int .i64 tl, .int .i64 th, .int .i64 ml, .int .i64 mh, .int .i64 pr, .int .i64 st] 174 w.heap.size rfl
  have gg := Gr.al w (.cells #[.int .i64 ki, .int .i64 we, .int .i64 tl, .int .i64 th, .int .i64 ml, .int .i64 mh, .int .i64 pr, .int .i64 st] 174)
  cases c1 : inB 1 1000 [we] with
  | false =>
    have E : goodP ⟨ki, we, tl, th, ml, mh, pr, st⟩ = false := by simp [goodP, k1, c1]
    rw [E]
    go_enter Try.func150, Try.ntmps150
    go_wp2_with (first | (go_at_call 79; refine (within_any _ _ [_] _ (by assumption) _ _ _ (IRow.new' _ 3 [_] (by simp) _ (by simp) _ (by simp))).mono ?_; rintro e w1 ⟨rfl, hg⟩; have hg2 := Gr.tr (Gr.al _ _) hg; replace gg := gg.tr hg2; replace hb := hb.keep hg2; obtain ⟨q0, q1, q2, q3, q4, q5, q6, q7⟩ := hb.c8; clear hg hg2) | (go_at_call 118; refine (valid_any _ _ _ _ _ (by assumption) _ _ _ (SRow.new1 _ 45 _ _ _ (by simp))).mono ?_; rintro e w1 ⟨rfl, hg⟩; have hg2 := Gr.tr (Gr.al _ _) hg; replace gg := gg.tr hg2; replace hb := hb.keep hg2; obtain ⟨q0, q1, q2, q3, q4, q5, q6, q7⟩ := hb.c8; clear hg hg2))
    go_ret
    exact ⟨rfl, gg⟩
  | true =>
    cases c2 : okSpan 1 1000 tl th with
    | false =>
      have E : goodP ⟨ki, we, tl, th, ml, mh, pr, st⟩ = false := by simp [goodP, k1, c1, c2]
      rw [E]
      go_enter Try.func150, Try.ntmps150
      go_wp2_with (first | (go_at_call 79; refine (within_any _ _ [_] _ (by assumption) _ _ _ (IRow.new' _ 3 [_] (by simp) _ (by simp) _ (by simp))).mono ?_; rintro e w1 ⟨rfl, hg⟩; have hg2 := Gr.tr (Gr.al _ _) hg; replace gg := gg.tr hg2; replace hb := hb.keep hg2; obtain ⟨q0, q1, q2, q3, q4, q5, q6, q7⟩ := hb.c8; clear hg hg2) | (go_at_call 118; refine (valid_any _ _ _ _ _ (by assumption) _ _ _ (SRow.new1 _ 45 _ _ _ (by simp))).mono ?_; rintro e w1 ⟨rfl, hg⟩; have hg2 := Gr.tr (Gr.al _ _) hg; replace gg := gg.tr hg2; replace hb := hb.keep hg2; obtain ⟨q0, q1, q2, q3, q4, q5, q6, q7⟩ := hb.c8; clear hg hg2))
      go_ret
      exact ⟨rfl, gg⟩
    | true =>
      cases c3 : okSpan 0 200 ml mh with
      | false =>
        have E : goodP ⟨ki, we, tl, th, ml, mh, pr, st⟩ = false := by simp [goodP, k1, c1, c2, c3]
        rw [E]
        go_enter Try.func150, Try.ntmps150
        go_wp2_with (first | (go_at_call 79; refine (within_any _ _ [_] _ (by assumption) _ _ _ (IRow.new' _ 3 [_] (by simp) _ (by simp) _ (by simp))).mono ?_; rintro e w1 ⟨rfl, hg⟩; have hg2 := Gr.tr (Gr.al _ _) hg; replace gg := gg.tr hg2; replace hb := hb.keep hg2; obtain ⟨q0, q1, q2, q3, q4, q5, q6, q7⟩ := hb.c8; clear hg hg2) | (go_at_call 118; refine (valid_any _ _ _ _ _ (by assumption) _ _ _ (SRow.new1 _ 45 _ _ _ (by simp))).mono ?_; rintro e w1 ⟨rfl, hg⟩; have hg2 := Gr.tr (Gr.al _ _) hg; replace gg := gg.tr hg2; replace hb := hb.keep hg2; obtain ⟨q0, q1, q2, q3, q4, q5, q6, q7⟩ := hb.c8; clear hg hg2))
        go_ret
        exact ⟨rfl, gg⟩
      | true =>
        cases c4 : inB 0 1000000 [pr] with
        | false =>
          have E : goodP ⟨ki, we, tl, th, ml, mh, pr, st⟩ = false := by simp [goodP, k1, c1, c2, c3, c4]
          rw [E]
          go_enter Try.func150, Try.ntmps150
          go_wp2_with (first | (go_at_call 79; refine (within_any _ _ [_] _ (by assumption) _ _ _ (IRow.new' _ 3 [_] (by simp) _ (by simp) _ (by simp))).mono ?_; rintro e w1 ⟨rfl, hg⟩; have hg2 := Gr.tr (Gr.al _ _) hg; replace gg := gg.tr hg2; replace hb := hb.keep hg2; obtain ⟨q0, q1, q2, q3, q4, q5, q6, q7⟩ := hb.c8; clear hg hg2) | (go_at_call 118; refine (valid_any _ _ _ _ _ (by assumption) _ _ _ (SRow.new1 _ 45 _ _ _ (by simp))).mono ?_; rintro e w1 ⟨rfl, hg⟩; have hg2 := Gr.tr (Gr.al _ _) hg; replace gg := gg.tr hg2; replace hb := hb.keep hg2; obtain ⟨q0, q1, q2, q3, q4, q5, q6, q7⟩ := hb.c8; clear hg hg2))
          go_ret
          exact ⟨rfl, gg⟩
        | true =>
          cases c5 : inB 0 10000 [st] with
          | false =>
            have E : goodP ⟨ki, we, tl, th, ml, mh, pr, st⟩ = false := by simp [goodP, k1, c1, c2, c3, c4, c5]
            rw [E]
            go_enter Try.func150, Try.ntmps150
            go_wp2_with (first | (go_at_call 79; refine (within_any _ _ [_] _ (by assumption) _ _ _ (IRow.new' _ 3 [_] (by simp) _ (by simp) _ (by simp))).mono ?_; rintro e w1 ⟨rfl, hg⟩; have hg2 := Gr.tr (Gr.al _ _) hg; replace gg := gg.tr hg2; replace hb := hb.keep hg2; obtain ⟨q0, q1, q2, q3, q4, q5, q6, q7⟩ := hb.c8; clear hg hg2) | (go_at_call 118; refine (valid_any _ _ _ _ _ (by assumption) _ _ _ (SRow.new1 _ 45 _ _ _ (by simp))).mono ?_; rintro e w1 ⟨rfl, hg⟩; have hg2 := Gr.tr (Gr.al _ _) hg; replace gg := gg.tr hg2; replace hb := hb.keep hg2; obtain ⟨q0, q1, q2, q3, q4, q5, q6, q7⟩ := hb.c8; clear hg hg2))
            go_ret
            exact ⟨rfl, gg⟩
          | true =>
            have E : goodP ⟨ki, we, tl, th, ml, mh, pr, st⟩ = true := by simp [goodP, k1, c1, c2, c3, c4, c5]
            rw [E]
            go_enter Try.func150, Try.ntmps150
            go_wp2_with (first | (go_at_call 79; refine (within_any _ _ [_] _ (by assumption) _ _ _ (IRow.new' _ 3 [_] (by simp) _ (by simp) _ (by simp))).mono ?_; rintro e w1 ⟨rfl, hg⟩; have hg2 := Gr.tr (Gr.al _ _) hg; replace gg := gg.tr hg2; replace hb := hb.keep hg2; obtain ⟨q0, q1, q2, q3, q4, q5, q6, q7⟩ := hb.c8; clear hg hg2) | (go_at_call 118; refine (valid_any _ _ _ _ _ (by assumption) _ _ _ (SRow.new1 _ 45 _ _ _ (by simp))).mono ?_; rintro e w1 ⟨rfl, hg⟩; have hg2 := Gr.tr (Gr.al _ _) hg; replace gg := gg.tr hg2; replace hb := hb.keep hg2; obtain ⟨q0, q1, q2, q3, q4, q5, q6, q7⟩ := hb.c8; clear hg hg2))
            go_ret
            exact ⟨rfl, gg⟩

set_option maxHeartbeats 2000000 in
theorem goodPaper2 (ki we tl th ml mh pr st : Int) (w : World) (k1 : (ki == 1) = false) (k2 : (ki == 2) = true) :
    Calls Try.prog 150 #[.agg #[.int .i64 ki, .int .i64 we, .int .i64 tl, .int .i64 th, .int .i64 ml, .int .i64 mh, .int .i64 pr, .int .i64 st]] w fun e w' => e = .returned (.bool (goodP ⟨ki, we, tl, th, ml, mh, pr, st⟩)) ∧ Gr w w' := by
  have hb := Box.new w [.int .i64 ki, .int .i64 we, .int .i64 tl, .int .i64 th, .int .i64 ml, .int .i64 mh, .int .i64 pr, .int .i64 st] 174 w.heap.size rfl
  have gg := Gr.al w (.cells #[.int .i64 ki, .int .i64 we, .int .i64 tl, .int .i64 th, .int .i64 ml, .int .i64 mh, .int .i64 pr, .int .i64 st] 174)
  cases c1 : inB 1 1000 [we] with
  | false =>
    have E : goodP ⟨ki, we, tl, th, ml, mh, pr, st⟩ = false := by simp [goodP, k1, k2, c1]
    rw [E]
    go_enter Try.func150, Try.ntmps150
    go_wp2_with (first | (go_at_call 79; refine (within_any _ _ [_] _ (by assumption) _ _ _ (IRow.new' _ 3 [_] (by simp) _ (by simp) _ (by simp))).mono ?_; rintro e w1 ⟨rfl, hg⟩; have hg2 := Gr.tr (Gr.al _ _) hg; replace gg := gg.tr hg2; replace hb := hb.keep hg2; obtain ⟨q0, q1, q2, q3, q4, q5, q6, q7⟩ := hb.c8; clear hg hg2) | (go_at_call 118; refine (valid_any _ _ _ _ _ (by assumption) _ _ _ (SRow.new1 _ 45 _ _ _ (by simp))).mono ?_; rintro e w1 ⟨rfl, hg⟩; have hg2 := Gr.tr (Gr.al _ _) hg; replace gg := gg.tr hg2; replace hb := hb.keep hg2; obtain ⟨q0, q1, q2, q3, q4, q5, q6, q7⟩ := hb.c8; clear hg hg2))
    go_ret
    exact ⟨rfl, gg⟩
  | true =>
    cases c2 : okSpan 1 1000 tl th with
    | false =>
      have E : goodP ⟨ki, we, tl, th, ml, mh, pr, st⟩ = false := by simp [goodP, k1, k2, c1, c2]
      rw [E]
      go_enter Try.func150, Try.ntmps150
      go_wp2_with (first | (go_at_call 79; refine (within_any _ _ [_] _ (by assumption) _ _ _ (IRow.new' _ 3 [_] (by simp) _ (by simp) _ (by simp))).mono ?_; rintro e w1 ⟨rfl, hg⟩; have hg2 := Gr.tr (Gr.al _ _) hg; replace gg := gg.tr hg2; replace hb := hb.keep hg2; obtain ⟨q0, q1, q2, q3, q4, q5, q6, q7⟩ := hb.c8; clear hg hg2) | (go_at_call 118; refine (valid_any _ _ _ _ _ (by assumption) _ _ _ (SRow.new1 _ 45 _ _ _ (by simp))).mono ?_; rintro e w1 ⟨rfl, hg⟩; have hg2 := Gr.tr (Gr.al _ _) hg; replace gg := gg.tr hg2; replace hb := hb.keep hg2; obtain ⟨q0, q1, q2, q3, q4, q5, q6, q7⟩ := hb.c8; clear hg hg2))
      go_ret
      exact ⟨rfl, gg⟩
    | true =>
      cases c3 : okSpan 0 200 ml mh with
      | false =>
        have E : goodP ⟨ki, we, tl, th, ml, mh, pr, st⟩ = false := by simp [goodP, k1, k2, c1, c2, c3]
        rw [E]
        go_enter Try.func150, Try.ntmps150
        go_wp2_with (first | (go_at_call 79; refine (within_any _ _ [_] _ (by assumption) _ _ _ (IRow.new' _ 3 [_] (by simp) _ (by simp) _ (by simp))).mono ?_; rintro e w1 ⟨rfl, hg⟩; have hg2 := Gr.tr (Gr.al _ _) hg; replace gg := gg.tr hg2; replace hb := hb.keep hg2; obtain ⟨q0, q1, q2, q3, q4, q5, q6, q7⟩ := hb.c8; clear hg hg2) | (go_at_call 118; refine (valid_any _ _ _ _ _ (by assumption) _ _ _ (SRow.new1 _ 45 _ _ _ (by simp))).mono ?_; rintro e w1 ⟨rfl, hg⟩; have hg2 := Gr.tr (Gr.al _ _) hg; replace gg := gg.tr hg2; replace hb := hb.keep hg2; obtain ⟨q0, q1, q2, q3, q4, q5, q6, q7⟩ := hb.c8; clear hg hg2))
        go_ret
        exact ⟨rfl, gg⟩
      | true =>
        cases c4 : inB 0 1000000 [pr] with
        | false =>
          have E : goodP ⟨ki, we, tl, th, ml, mh, pr, st⟩ = false := by simp [goodP, k1, k2, c1, c2, c3, c4]
          rw [E]
          go_enter Try.func150, Try.ntmps150
          go_wp2_with (first | (go_at_call 79; refine (within_any _ _ [_] _ (by assumption) _ _ _ (IRow.new' _ 3 [_] (by simp) _ (by simp) _ (by simp))).mono ?_; rintro e w1 ⟨rfl, hg⟩; have hg2 := Gr.tr (Gr.al _ _) hg; replace gg := gg.tr hg2; replace hb := hb.keep hg2; obtain ⟨q0, q1, q2, q3, q4, q5, q6, q7⟩ := hb.c8; clear hg hg2) | (go_at_call 118; refine (valid_any _ _ _ _ _ (by assumption) _ _ _ (SRow.new1 _ 45 _ _ _ (by simp))).mono ?_; rintro e w1 ⟨rfl, hg⟩; have hg2 := Gr.tr (Gr.al _ _) hg; replace gg := gg.tr hg2; replace hb := hb.keep hg2; obtain ⟨q0, q1, q2, q3, q4, q5, q6, q7⟩ := hb.c8; clear hg hg2))
          go_ret
          exact ⟨rfl, gg⟩
        | true =>
          cases c5 : inB 0 10000 [st] with
          | false =>
            have E : goodP ⟨ki, we, tl, th, ml, mh, pr, st⟩ = false := by simp [goodP, k1, k2, c1, c2, c3, c4, c5]
            rw [E]
            go_enter Try.func150, Try.ntmps150
            go_wp2_with (first | (go_at_call 79; refine (within_any _ _ [_] _ (by assumption) _ _ _ (IRow.new' _ 3 [_] (by simp) _ (by simp) _ (by simp))).mono ?_; rintro e w1 ⟨rfl, hg⟩; have hg2 := Gr.tr (Gr.al _ _) hg; replace gg := gg.tr hg2; replace hb := hb.keep hg2; obtain ⟨q0, q1, q2, q3, q4, q5, q6, q7⟩ := hb.c8; clear hg hg2) | (go_at_call 118; refine (valid_any _ _ _ _ _ (by assumption) _ _ _ (SRow.new1 _ 45 _ _ _ (by simp))).mono ?_; rintro e w1 ⟨rfl, hg⟩; have hg2 := Gr.tr (Gr.al _ _) hg; replace gg := gg.tr hg2; replace hb := hb.keep hg2; obtain ⟨q0, q1, q2, q3, q4, q5, q6, q7⟩ := hb.c8; clear hg hg2))
            go_ret
            exact ⟨rfl, gg⟩
          | true =>
            have E : goodP ⟨ki, we, tl, th, ml, mh, pr, st⟩ = true := by simp [goodP, k1, k2, c1, c2, c3, c4, c5]
            rw [E]
            go_enter Try.func150, Try.ntmps150
            go_wp2_with (first | (go_at_call 79; refine (within_any _ _ [_] _ (by assumption) _ _ _ (IRow.new' _ 3 [_] (by simp) _ (by simp) _ (by simp))).mono ?_; rintro e w1 ⟨rfl, hg⟩; have hg2 := Gr.tr (Gr.al _ _) hg; replace gg := gg.tr hg2; replace hb := hb.keep hg2; obtain ⟨q0, q1, q2, q3, q4, q5, q6, q7⟩ := hb.c8; clear hg hg2) | (go_at_call 118; refine (valid_any _ _ _ _ _ (by assumption) _ _ _ (SRow.new1 _ 45 _ _ _ (by simp))).mono ?_; rintro e w1 ⟨rfl, hg⟩; have hg2 := Gr.tr (Gr.al _ _) hg; replace gg := gg.tr hg2; replace hb := hb.keep hg2; obtain ⟨q0, q1, q2, q3, q4, q5, q6, q7⟩ := hb.c8; clear hg hg2))
            go_ret
            exact ⟨rfl, gg⟩

set_option maxHeartbeats 2000000 in
theorem goodPaper3 (ki we tl th ml mh pr st : Int) (w : World) (k1 : (ki == 1) = false) (k2 : (ki == 2) = false) :
    Calls Try.prog 150 #[.agg #[.int .i64 ki, .int .i64 we, .int .i64 tl, .int .i64 th, .int .i64 ml, .int .i64 mh, .int .i64 pr, .int .i64 st]] w fun e w' => e = .returned (.bool (goodP ⟨ki, we, tl, th, ml, mh, pr, st⟩)) ∧ Gr w w' := by
  have hb := Box.new w [.int .i64 ki, .int .i64 we, .int .i64 tl, .int .i64 th, .int .i64 ml, .int .i64 mh, .int .i64 pr, .int .i64 st] 174 w.heap.size rfl
  have gg := Gr.al w (.cells #[.int .i64 ki, .int .i64 we, .int .i64 tl, .int .i64 th, .int .i64 ml, .int .i64 mh, .int .i64 pr, .int .i64 st] 174)
  have E : goodP ⟨ki, we, tl, th, ml, mh, pr, st⟩ = false := by simp [goodP, k1, k2]
  rw [E]
  go_enter Try.func150, Try.ntmps150
  go_wp2
  go_ret
  exact ⟨rfl, gg⟩

theorem goodPaper_any (p : Paper) (w : World) :
    Calls Try.prog 150 #[.agg #[.int .i64 p.kind, .int .i64 p.weight, .int .i64 p.tlo, .int .i64 p.thi, .int .i64 p.mlo, .int .i64 p.mhi, .int .i64 p.price, .int .i64 p.strong]] w fun e w' => e = .returned (.bool (goodP p)) ∧ Gr w w' := by
  obtain ⟨ki, we, tl, th, ml, mh, pr, st⟩ := p
  cases k1 : (ki == 1) with
  | true => exact goodPaper1 ki we tl th ml mh pr st w k1
  | false =>
    cases k2 : (ki == 2) with
    | true => exact goodPaper2 ki we tl th ml mh pr st w k1 k2
    | false => exact goodPaper3 ki we tl th ml mh pr st w k1 k2

def goodF (f : Flute) : Bool := inB 1000 10000 [f.pitch] && inB f.pitch (2 * f.pitch) [f.draw] && okSpan 1 10000 f.hlo f.hhi

set_option maxHeartbeats 1000000 in
theorem goodFlute_of (pi dr hl hh : Int) (w : World) :
    Calls Try.prog 152 #[.agg #[.int .i64 pi, .int .i64 dr, .int .i64 hl, .int .i64 hh]] w fun e w' => e = .returned (.bool (goodF ⟨pi, dr, hl, hh⟩)) ∧ Gr w w' := by
  have hb := Box.new w [.int .i64 pi, .int .i64 dr, .int .i64 hl, .int .i64 hh] 176 w.heap.size rfl
  have gg := Gr.al w (.cells #[.int .i64 pi, .int .i64 dr, .int .i64 hl, .int .i64 hh] 176)
  cases c1 : inB 1000 10000 [pi] with
  | false =>
    have E : goodF ⟨pi, dr, hl, hh⟩ = false := by simp [goodF, c1]
    rw [E]
    go_enter Try.func152, Try.ntmps152
    go_wp2_with (first | (go_at_call 79; refine (within_any _ _ [_] _ (by assumption) _ _ _ (IRow.new' _ 3 [_] (by simp) _ (by simp) _ (by simp))).mono ?_; rintro e w1 ⟨rfl, hg⟩; have hg2 := Gr.tr (Gr.al _ _) hg; replace gg := gg.tr hg2; replace hb := hb.keep hg2; obtain ⟨q0, q1, q2, q3⟩ := hb.c4; clear hg hg2) | (go_at_call 118; refine (valid_any _ _ _ _ _ (by assumption) _ _ _ (SRow.new1 _ 45 _ _ _ (by simp))).mono ?_; rintro e w1 ⟨rfl, hg⟩; have hg2 := Gr.tr (Gr.al _ _) hg; replace gg := gg.tr hg2; replace hb := hb.keep hg2; obtain ⟨q0, q1, q2, q3⟩ := hb.c4; clear hg hg2))
    go_ret
    exact ⟨rfl, gg⟩
  | true =>
    have hpi : 1000 ≤ pi ∧ pi ≤ 10000 := by simpa [inB, in1] using c1
    obtain ⟨hp1, hp2⟩ := hpi
    cases c2 : inB pi (2 * pi) [dr] with
    | false =>
      have E : goodF ⟨pi, dr, hl, hh⟩ = false := by simp [goodF, c1, c2]
      rw [E]
      go_enter Try.func152, Try.ntmps152
      go_wp2_with (first | (go_at_call 79; refine (within_any _ _ [_] _ (by assumption) _ _ _ (IRow.new' _ 3 [_] (by simp) _ (by simp) _ (by simp))).mono ?_; rintro e w1 ⟨rfl, hg⟩; have hg2 := Gr.tr (Gr.al _ _) hg; replace gg := gg.tr hg2; replace hb := hb.keep hg2; obtain ⟨q0, q1, q2, q3⟩ := hb.c4; clear hg hg2) | (go_at_call 118; refine (valid_any _ _ _ _ _ (by assumption) _ _ _ (SRow.new1 _ 45 _ _ _ (by simp))).mono ?_; rintro e w1 ⟨rfl, hg⟩; have hg2 := Gr.tr (Gr.al _ _) hg; replace gg := gg.tr hg2; replace hb := hb.keep hg2; obtain ⟨q0, q1, q2, q3⟩ := hb.c4; clear hg hg2))
      go_ret
      exact ⟨rfl, gg⟩
    | true =>
      cases c3 : okSpan 1 10000 hl hh with
      | false =>
        have E : goodF ⟨pi, dr, hl, hh⟩ = false := by simp [goodF, c1, c2, c3]
        rw [E]
        go_enter Try.func152, Try.ntmps152
        go_wp2_with (first | (go_at_call 79; refine (within_any _ _ [_] _ (by assumption) _ _ _ (IRow.new' _ 3 [_] (by simp) _ (by simp) _ (by simp))).mono ?_; rintro e w1 ⟨rfl, hg⟩; have hg2 := Gr.tr (Gr.al _ _) hg; replace gg := gg.tr hg2; replace hb := hb.keep hg2; obtain ⟨q0, q1, q2, q3⟩ := hb.c4; clear hg hg2) | (go_at_call 118; refine (valid_any _ _ _ _ _ (by assumption) _ _ _ (SRow.new1 _ 45 _ _ _ (by simp))).mono ?_; rintro e w1 ⟨rfl, hg⟩; have hg2 := Gr.tr (Gr.al _ _) hg; replace gg := gg.tr hg2; replace hb := hb.keep hg2; obtain ⟨q0, q1, q2, q3⟩ := hb.c4; clear hg hg2))
        go_ret
        exact ⟨rfl, gg⟩
      | true =>
        have E : goodF ⟨pi, dr, hl, hh⟩ = true := by simp [goodF, c1, c2, c3]
        rw [E]
        go_enter Try.func152, Try.ntmps152
        go_wp2_with (first | (go_at_call 79; refine (within_any _ _ [_] _ (by assumption) _ _ _ (IRow.new' _ 3 [_] (by simp) _ (by simp) _ (by simp))).mono ?_; rintro e w1 ⟨rfl, hg⟩; have hg2 := Gr.tr (Gr.al _ _) hg; replace gg := gg.tr hg2; replace hb := hb.keep hg2; obtain ⟨q0, q1, q2, q3⟩ := hb.c4; clear hg hg2) | (go_at_call 118; refine (valid_any _ _ _ _ _ (by assumption) _ _ _ (SRow.new1 _ 45 _ _ _ (by simp))).mono ?_; rintro e w1 ⟨rfl, hg⟩; have hg2 := Gr.tr (Gr.al _ _) hg; replace gg := gg.tr hg2; replace hb := hb.keep hg2; obtain ⟨q0, q1, q2, q3⟩ := hb.c4; clear hg hg2))
        go_ret
        exact ⟨rfl, gg⟩

theorem goodFlute_any (f : Flute) (w : World) :
    Calls Try.prog 152 #[.agg #[.int .i64 f.pitch, .int .i64 f.draw, .int .i64 f.hlo, .int .i64 f.hhi]] w fun e w' => e = .returned (.bool (goodF f)) ∧ Gr w w' :=
  goodFlute_of f.pitch f.draw f.hlo f.hhi w

end Go.Proofs.Ytcdilmagcdbogaa

namespace Go.Proofs.Ytcdilmagcdbogaa
set_option linter.unusedVariables false
set_option linter.unusedSimpArgs false
open Go.RowKit

theorem every103 (x : Paper) (b : Nat) (w : World) (h0 : w.cell? ⟨b, 0, none⟩ = some (.func (.func 150) #[] #[])) :
    Calls Try.prog 158 #[.agg #[.int .i64 x.kind, .int .i64 x.weight, .int .i64 x.tlo, .int .i64 x.thi, .int .i64 x.mlo, .int .i64 x.mhi, .int .i64 x.price, .int .i64 x.strong], .pointer (some ⟨b, 0, none⟩)] w fun e w' => e = .returned (.bool (!goodP x)) ∧ Gr w w' := by
  have g := Gr.al w (.cells #[.int .i64 x.kind, .int .i64 x.weight, .int .i64 x.tlo, .int .i64 x.thi, .int .i64 x.mlo, .int .i64 x.mhi, .int .i64 x.price, .int .i64 x.strong] 174)
  have h0' := g.keep h0
  have hb := Box.new w [.int .i64 x.kind, .int .i64 x.weight, .int .i64 x.tlo, .int .i64 x.thi, .int .i64 x.mlo, .int .i64 x.mhi, .int .i64 x.price, .int .i64 x.strong] 174 w.heap.size rfl
  go_enter Try.func158, Try.ntmps158
  go_wp2_with (go_at_call 150; refine (goodPaper_any x _).mono ?_; rintro e w' ⟨rfl, hg⟩)
  go_ret
  exact ⟨rfl, g.tr hg⟩

def SomeIdx131 (c : Bool) (w : World) (e : Ending) (w' : World) : Prop := ∃ r : Int, e = .returned (.int .i64 r) ∧ decide (0 ≤ r) = c ∧ Gr w w'

set_option maxHeartbeats 1000000 in
theorem index131 (l : List Paper) (a : Option Addr) (cap b : Nat) (w : World) (hr : PRow w a l) (h0 : w.cell? ⟨b, 0, none⟩ = some (.func (.func 150) #[] #[])) :
    Calls Try.prog 162 #[.slice a l.length cap, .func (.func 158) #[] #[.pointer (some ⟨b, 0, none⟩)]] w (SomeIdx131 (!l.all goodP) w) := by
  have hm := hr.1
  go_enter Try.func162, Try.ntmps162
  go_wp2
  go_loopw [8] (fun i wr => ∃ k : Nat, k ≤ l.length ∧ i = .int .i64 k ∧ (l.take k).all goodP = true ∧ Gr w wr) (fun i wr => l.length - (intOf i).toNat)
  case atStart => exact ⟨0, Nat.zero_le _, rfl, rfl, Below.refl _ _⟩
  case round =>
    obtain ⟨k, hk, rfl, hall, hG⟩ := hrel
    have Hall : Hid _ := hall
    clear hall
    have hr1 := hr.grow hG
    have h1 := hG.keep h0
    by_cases hlt : k < l.length
    · obtain ⟨x, hx⟩ := get_of_lt hlt
      obtain ⟨b0, off, rfl, hb, q0, q1, q2, q3, q4, q5, q6, q7⟩ := PRow.get hr1 hx
      have Hx : Hid _ := hx
      clear hx
      cases hp : goodP x with
      | true =>
        go_wp2_with (go_at_call 158; refine (every103 x _ _ h1).mono ?_; rintro e w' ⟨rfl, hg⟩)
        go_roundw
        case rel => exact ⟨k + 1, by omega, by go_num, all_take_succ _ Hx.out Hall.out hp, hG.tr hg⟩
        case measure => simp [intOf]; omega
      | false =>
        go_wp2_with (go_at_call 158; refine (every103 x _ _ h1).mono ?_; rintro e w' ⟨rfl, hg⟩)
        go_ret
        exact ⟨k, rfl, by rw [not_all_of _ Hx.out hp]; simp, hG.tr hg⟩
    · have e : l.all goodP = true := by
        have h := Hall.out
        rwa [List.take_of_length_le (by omega)] at h
      have He := Lib.hid e
      clear e
      go_wp2
      go_ret
      exact ⟨-1, rfl, by rw [He.out]; decide, hG⟩

theorem contains102 (l : List Paper) (a : Option Addr) (cap b : Nat) (w : World) (hr : PRow w a l) (h0 : w.cell? ⟨b, 0, none⟩ = some (.func (.func 150) #[] #[])) :
    Calls Try.prog 157 #[.slice a l.length cap, .func (.func 158) #[] #[.pointer (some ⟨b, 0, none⟩)]] w fun e w' => e = .returned (.bool (!l.all goodP)) ∧ Gr w w' := by
  go_enter Try.func157, Try.ntmps157
  go_wp2_with (go_at_call 162; refine (index131 l _ _ _ _ hr h0).mono ?_; rintro e w' ⟨r, rfl, hc, hg⟩; have Hc := Lib.hid hc; clear hc)
  go_ret
  exact ⟨ret_bool Hc.out, hg⟩

theorem every65 (l : List Paper) (d : Bool) (hd : l.all goodP = d) (a : Option Addr) (cap : Nat) (w : World) (hr : PRow w a l) :
    Calls Try.prog 149 #[.slice a l.length cap, .func (.func 150) #[] #[]] w fun e w' => e = .returned (.bool d) ∧ Gr w w' := by
  subst hd
  have g := Gr.al w (.cells #[.func (.func 150) #[] #[]] 223)
  have hr' := hr.grow g
  have hb := (Box.new w [.func (.func 150) #[] #[]] 223 w.heap.size rfl).c1
  go_enter Try.func149, Try.ntmps149
  go_wp2_with (go_at_call 157; refine (contains102 l _ _ _ _ hr' hb).mono ?_; rintro e w' ⟨rfl, hg⟩)
  go_ret
  exact ⟨ret_bool (by simp), g.tr hg⟩

theorem every105 (x : Flute) (b : Nat) (w : World) (h0 : w.cell? ⟨b, 0, none⟩ = some (.func (.func 152) #[] #[])) :
    Calls Try.prog 160 #[.agg #[.int .i64 x.pitch, .int .i64 x.draw, .int .i64 x.hlo, .int .i64 x.hhi], .pointer (some ⟨b, 0, none⟩)] w fun e w' => e = .returned (.bool (!goodF x)) ∧ Gr w w' := by
  have g := Gr.al w (.cells #[.int .i64 x.pitch, .int .i64 x.draw, .int .i64 x.hlo, .int .i64 x.hhi] 176)
  have h0' := g.keep h0
  have hb := Box.new w [.int .i64 x.pitch, .int .i64 x.draw, .int .i64 x.hlo, .int .i64 x.hhi] 176 w.heap.size rfl
  go_enter Try.func160, Try.ntmps160
  go_wp2_with (go_at_call 152; refine (goodFlute_any x _).mono ?_; rintro e w' ⟨rfl, hg⟩)
  go_ret
  exact ⟨rfl, g.tr hg⟩

def SomeIdx132 (c : Bool) (w : World) (e : Ending) (w' : World) : Prop := ∃ r : Int, e = .returned (.int .i64 r) ∧ decide (0 ≤ r) = c ∧ Gr w w'

set_option maxHeartbeats 1000000 in
theorem index132 (l : List Flute) (a : Option Addr) (cap b : Nat) (w : World) (hr : FRow w a l) (h0 : w.cell? ⟨b, 0, none⟩ = some (.func (.func 152) #[] #[])) :
    Calls Try.prog 163 #[.slice a l.length cap, .func (.func 160) #[] #[.pointer (some ⟨b, 0, none⟩)]] w (SomeIdx132 (!l.all goodF) w) := by
  have hm := hr.1
  go_enter Try.func163, Try.ntmps163
  go_wp2
  go_loopw [8] (fun i wr => ∃ k : Nat, k ≤ l.length ∧ i = .int .i64 k ∧ (l.take k).all goodF = true ∧ Gr w wr) (fun i wr => l.length - (intOf i).toNat)
  case atStart => exact ⟨0, Nat.zero_le _, rfl, rfl, Below.refl _ _⟩
  case round =>
    obtain ⟨k, hk, rfl, hall, hG⟩ := hrel
    have Hall : Hid _ := hall
    clear hall
    have hr1 := hr.grow hG
    have h1 := hG.keep h0
    by_cases hlt : k < l.length
    · obtain ⟨x, hx⟩ := get_of_lt hlt
      obtain ⟨b0, off, rfl, hb, q0, q1, q2, q3⟩ := FRow.get hr1 hx
      have Hx : Hid _ := hx
      clear hx
      cases hp : goodF x with
      | true =>
        go_wp2_with (go_at_call 160; refine (every105 x _ _ h1).mono ?_; rintro e w' ⟨rfl, hg⟩)
        go_roundw
        case rel => exact ⟨k + 1, by omega, by go_num, all_take_succ _ Hx.out Hall.out hp, hG.tr hg⟩
        case measure => simp [intOf]; omega
      | false =>
        go_wp2_with (go_at_call 160; refine (every105 x _ _ h1).mono ?_; rintro e w' ⟨rfl, hg⟩)
        go_ret
        exact ⟨k, rfl, by rw [not_all_of _ Hx.out hp]; simp, hG.tr hg⟩
    · have e : l.all goodF = true := by
        have h := Hall.out
        rwa [List.take_of_length_le (by omega)] at h
      have He := Lib.hid e
      clear e
      go_wp2
      go_ret
      exact ⟨-1, rfl, by rw [He.out]; decide, hG⟩

theorem contains104 (l : List Flute) (a : Option Addr) (cap b : Nat) (w : World) (hr : FRow w a l) (h0 : w.cell? ⟨b, 0, none⟩ = some (.func (.func 152) #[] #[])) :
    Calls Try.prog 159 #[.slice a l.length cap, .func (.func 160) #[] #[.pointer (some ⟨b, 0, none⟩)]] w fun e w' => e = .returned (.bool (!l.all goodF)) ∧ Gr w w' := by
  go_enter Try.func159, Try.ntmps159
  go_wp2_with (go_at_call 163; refine (index132 l _ _ _ _ hr h0).mono ?_; rintro e w' ⟨r, rfl, hc, hg⟩; have Hc := Lib.hid hc; clear hc)
  go_ret
  exact ⟨ret_bool Hc.out, hg⟩

theorem every67 (l : List Flute) (d : Bool) (hd : l.all goodF = d) (a : Option Addr) (cap : Nat) (w : World) (hr : FRow w a l) :
    Calls Try.prog 151 #[.slice a l.length cap, .func (.func 152) #[] #[]] w fun e w' => e = .returned (.bool d) ∧ Gr w w' := by
  subst hd
  have g := Gr.al w (.cells #[.func (.func 152) #[] #[]] 225)
  have hr' := hr.grow g
  have hb := (Box.new w [.func (.func 152) #[] #[]] 225 w.heap.size rfl).c1
  go_enter Try.func151, Try.ntmps151
  go_wp2_with (go_at_call 159; refine (contains104 l _ _ _ _ hr' hb).mono ?_; rintro e w' ⟨rfl, hg⟩)
  go_ret
  exact ⟨ret_bool (by simp), g.tr hg⟩

/-- The error of a store. -/
def checkL (ps : List Paper) (fs : List Flute) : Int :=
  if 8 < ps.length ∨ 4 < fs.length then 5 else if ps.length = 0 ∨ fs.length = 0 then 2 else if ps.all goodP && fs.all goodF then 0 else 2

def vStore (pa fa : Option Addr) (pn pc fn fc : Nat) : Value := .agg #[.slice pa pn pc, .slice fa fn fc]

set_option maxHeartbeats 2000000 in
theorem check_any (ps : List Paper) (fs : List Flute) (c : Int) (hc : checkL ps fs = c) (pa fa : Option Addr) (pc fc : Nat) (w : World) (hp : PRow w pa ps) (hf : FRow w fa fs) :
    Calls Try.prog 129 #[.agg #[.slice pa ps.length pc, .slice fa fs.length fc]] w fun e w' => e = .returned (.int .i64 c) ∧ Gr w w' := by
  subst hc
  have gg := Gr.al w (.cells #[.slice pa ps.length pc, .slice fa fs.length fc] 124)
  have hb := Box.new w [.slice pa ps.length pc, .slice fa fs.length fc] 124 w.heap.size rfl
  have hp' := hp.grow gg
  have hf' := hf.grow gg
  have hm1 := hp.1
  have hm2 := hf.1
  by_cases h1 : (8 : Int) < ps.length
  · have E : checkL ps fs = 5 := by unfold checkL; rw [if_pos (by omega)]
    rw [E]
    go_enter Try.func129, Try.ntmps129
    go_wp2
    go_ret
    exact ⟨rfl, gg⟩
  by_cases h2 : (4 : Int) < fs.length
  · have E : checkL ps fs = 5 := by unfold checkL; rw [if_pos (by omega)]
    rw [E]
    go_enter Try.func129, Try.ntmps129
    go_wp2
    go_ret
    exact ⟨rfl, gg⟩
  by_cases h3 : ((ps.length : Int) == 0) = true
  · have E : checkL ps fs = 2 := by
      have h3' : (ps.length : Int) = 0 := by simpa using h3
      unfold checkL; rw [if_neg (by omega), if_pos (by omega)]
    rw [E]
    go_enter Try.func129, Try.ntmps129
    go_wp2
    go_ret
    exact ⟨rfl, gg⟩
  by_cases h4 : ((fs.length : Int) == 0) = true
  · have E : checkL ps fs = 2 := by
      have h4' : (fs.length : Int) = 0 := by simpa using h4
      unfold checkL; rw [if_neg (by omega), if_pos (by omega)]
    rw [E]
    have h3' : ((ps.length : Int) == 0) = false := by simpa using h3
    go_enter Try.func129, Try.ntmps129
    go_wp2
    go_ret
    exact ⟨rfl, gg⟩
  have h3' : ((ps.length : Int) == 0) = false := by simpa using h3
  have h4' : ((fs.length : Int) == 0) = false := by simpa using h4
  have E0 : checkL ps fs = if ps.all goodP && fs.all goodF then 0 else 2 := by
    have h3'' : ¬ (ps.length : Int) = 0 := by simpa using h3
    have h4'' : ¬ (fs.length : Int) = 0 := by simpa using h4
    unfold checkL; rw [if_neg (by omega), if_neg (by omega)]
  have H0 := Lib.hid E0
  clear E0 h3 h4
  cases c1 : ps.all goodP with
  | false =>
    have E : checkL ps fs = 2 := by rw [H0.out, c1]; rfl
    rw [E]
    go_enter Try.func129, Try.ntmps129
    go_wp2_with (go_at_call 149; refine (every65 ps _ c1 _ _ _ hp').mono ?_; rintro e w1 ⟨rfl, hg⟩)
    go_ret
    exact ⟨rfl, gg.tr hg⟩
  | true =>
    cases c2 : fs.all goodF with
    | false =>
      have E : checkL ps fs = 2 := by rw [H0.out, c1, c2]; rfl
      rw [E]
      go_enter Try.func129, Try.ntmps129
      go_wp2_with (first | (go_at_call 149; refine (every65 ps _ c1 _ _ _ hp').mono ?_; rintro e w1 ⟨rfl, hg⟩; have hf2 := hf'.grow hg; obtain ⟨q0, q1⟩ := (hb.keep hg).c2) | (go_at_call 151; refine (every67 fs _ c2 _ _ _ hf2).mono ?_; rintro e w2 ⟨rfl, hg2⟩))
      go_ret
      exact ⟨rfl, (gg.tr hg).tr hg2⟩
    | true =>
      have E : checkL ps fs = 0 := by rw [H0.out, c1, c2]; rfl
      rw [E]
      go_enter Try.func129, Try.ntmps129
      go_wp2_with (first | (go_at_call 149; refine (every65 ps _ c1 _ _ _ hp').mono ?_; rintro e w1 ⟨rfl, hg⟩; have hf2 := hf'.grow hg; obtain ⟨q0, q1⟩ := (hb.keep hg).c2) | (go_at_call 151; refine (every67 fs _ c2 _ _ _ hf2).mono ?_; rintro e w2 ⟨rfl, hg2⟩))
      go_ret
      exact ⟨rfl, (gg.tr hg).tr hg2⟩

end Go.Proofs.Ytcdilmagcdbogaa

namespace Go.Proofs.Ytcdilmagcdbogaa
set_option linter.unusedVariables false
set_option linter.unusedSimpArgs false
open Go.RowKit

def kindL (n : Int) : Int := if n % 2 = 0 then 1 else 2

theorem kindAt_any (n : Int) (hn : 0 ≤ n) (w : World) :
    Calls Try.prog 132 #[.int .i64 n] w fun e w' => e = .returned (.int .i64 (kindL n)) ∧ w' = w := by
  by_cases h : n % 2 = 0
  · have E : kindL n = 1 := by simp [kindL, h]
    rw [E]
    have h' : (n % 2 == 0) = true := by simpa using h
    clear h
    go_enter Try.func132, Try.ntmps132
    go_wp2
    go_ret
    exact ⟨rfl, rfl⟩
  · have E : kindL n = 2 := by simp [kindL, h]
    rw [E]
    have h' : (n % 2 == 0) = false := by simpa using h
    clear h
    go_enter Try.func132, Try.ntmps132
    go_wp2
    go_ret
    exact ⟨rfl, rfl⟩

def formedL (mp mf : List Int) : Bool := inB 1 2 [(mf.length : Int)] && ((mp.length : Int) == 2 * (mf.length : Int) + 1)

set_option maxHeartbeats 400000 in
theorem formed_any (mp mf : List Int) (d : Bool) (hd : formedL mp mf = d) (a f : Option Addr) (ac fc : Nat) (w : World) :
    Calls Try.prog 130 #[.agg #[.slice a mp.length ac, .slice f mf.length fc]] w fun e w' => e = .returned (.bool d) ∧ Gr w w' := by
  subst hd
  have hb := Box.new w [.slice a mp.length ac, .slice f mf.length fc] 127 w.heap.size rfl
  have gg := Gr.al w (.cells #[.slice a mp.length ac, .slice f mf.length fc] 127)
  cases c1 : inB 1 2 [(mf.length : Int)] with
  | false =>
    have E : formedL mp mf = false := by simp [formedL, c1]
    rw [E]
    go_enter Try.func130, Try.ntmps130
    go_wp2_with (go_at_call 79; refine (within_any _ _ [_] _ c1 _ _ _ (IRow.new' _ 3 [_] (by simp) _ (by simp) _ (by simp))).mono ?_; rintro e w1 ⟨rfl, hg⟩; have hg2 := Gr.tr (Gr.al _ _) hg; replace gg := gg.tr hg2; replace hb := hb.keep hg2; obtain ⟨q0, q1⟩ := hb.c2; clear hg hg2)
    go_ret
    exact ⟨rfl, gg⟩
  | true =>
    have hl : 1 ≤ mf.length ∧ mf.length ≤ 2 := by
      have := c1
      simp only [inB, in1, List.all_cons, List.all_nil, Bool.and_true, Bool.and_eq_true, decide_eq_true_eq] at this
      omega
    obtain ⟨hl1, hl2⟩ := hl
    have E : formedL mp mf = ((mp.length : Int) == 2 * (mf.length : Int) + 1) := by simp [formedL, c1]
    rw [E]
    go_enter Try.func130, Try.ntmps130
    go_wp2_with (go_at_call 79; refine (within_any _ _ [_] _ c1 _ _ _ (IRow.new' _ 3 [_] (by simp) _ (by simp) _ (by simp))).mono ?_; rintro e w1 ⟨rfl, hg⟩; have hg2 := Gr.tr (Gr.al _ _) hg; replace gg := gg.tr hg2; replace hb := hb.keep hg2; obtain ⟨q0, q1⟩ := hb.c2; clear hg hg2)
    go_ret
    exact ⟨rfl, gg⟩

def numberedL (mp mf : List Int) (np nf : Int) : Bool := inB 0 (np - 1) mp && inB 0 (nf - 1) mf

set_option maxHeartbeats 400000 in
theorem numbered_any (mp mf : List Int) (np nf : Int) (h1 : 0 ≤ np) (h2 : np ≤ 9223372036854775807) (h3 : 0 ≤ nf) (h4 : nf ≤ 9223372036854775807) (d : Bool) (hd : numberedL mp mf np nf = d) (a f : Option Addr) (ac fc : Nat) (w : World) (ha : IRow w a mp) (hf : IRow w f mf) :
    Calls Try.prog 131 #[.agg #[.slice a mp.length ac, .slice f mf.length fc], .int .i64 np, .int .i64 nf] w fun e w' => e = .returned (.bool d) ∧ Gr w w' := by
  subst hd
  have hb := Box.new w [.slice a mp.length ac, .slice f mf.length fc] 127 w.heap.size rfl
  have gg := Gr.al w (.cells #[.slice a mp.length ac, .slice f mf.length fc] 127)
  have ha1 := ha.grow gg
  have hf1 := hf.grow gg
  cases c1 : inB 0 (np - 1) mp with
  | false =>
    have E : numberedL mp mf np nf = false := by simp [numberedL, c1]
    rw [E]
    go_enter Try.func131, Try.ntmps131
    go_wp2_with (go_at_call 79; refine (within_any _ _ mp _ c1 _ _ _ ha1).mono ?_; rintro e w1 ⟨rfl, hg⟩)
    go_ret
    exact ⟨rfl, gg.tr hg⟩
  | true =>
    have E : numberedL mp mf np nf = inB 0 (nf - 1) mf := by simp [numberedL, c1]
    rw [E]
    go_enter Try.func131, Try.ntmps131
    go_wp2_with fail
    refine (within_any _ _ mp _ c1 _ _ _ ha1).mono ?_
    rintro e w1 ⟨rfl, hg⟩
    obtain ⟨q0, q1⟩ := (hb.keep hg).c2
    have hf2 := hf1.grow hg
    go_wp2_with fail
    refine (within_any _ _ mf _ rfl _ _ _ hf2).mono ?_
    rintro e w2 ⟨rfl, hg2⟩
    go_wp2
    go_ret
    exact ⟨rfl, (gg.tr hg).tr hg2⟩

end Go.Proofs.Ytcdilmagcdbogaa

namespace Go.Proofs.Ytcdilmagcdbogaa
set_option linter.unusedVariables false
set_option linter.unusedSimpArgs false
open Go.RowKit

theorem Gr.drewN {w w' : World} (h : Gr w w') (n : Nat) : Gr w (w'.drewN n) := below_drewN h n

/-- The paper at place k is of the kind of its place. -/
def kindOk (ps : List Paper) (mp : List Int) (k : Nat) : Bool :=
  match mp[k]? with
  | none => true
  | some x => match ps[x.toNat]? with
    | none => false
    | some p => p.kind == kindL k

def kindsOk (ps : List Paper) (mp : List Int) : Bool := (List.range mp.length).all (kindOk ps mp)

/-- The error of a board. -/
def madeL (ps : List Paper) (fs : List Flute) (mp mf : List Int) : Int :=
  if checkL ps fs ≠ 0 then checkL ps fs else if formedL mp mf = false then 4 else if numberedL mp mf ps.length fs.length = false then 7 else if kindsOk ps mp = false then 2 else 0

theorem in_of_all {lo hi : Int} {l : List Int} (h : inB lo hi l = true) {k : Nat} {x : Int} (hx : l[k]? = some x) : lo ≤ x ∧ x ≤ hi := by
  have := List.all_eq_true.1 h x (List.mem_of_getElem? hx)
  simpa [in1] using this

theorem kindsOk_false {ps : List Paper} {mp : List Int} {k : Nat} (hk : k < mp.length) (h : kindOk ps mp k = false) : kindsOk ps mp = false := by
  unfold kindsOk
  rw [List.all_eq_false]
  exact ⟨k, by simpa using hk, by simp [h]⟩

theorem kindsOk_true {ps : List Paper} {mp : List Int} (h : ∀ j, j < mp.length → kindOk ps mp j = true) : kindsOk ps mp = true := by
  unfold kindsOk
  rw [List.all_eq_true]
  intro j hj
  exact h j (by simpa using hj)

set_option maxHeartbeats 4000000 in
theorem made_any (ps : List Paper) (fs : List Flute) (mp mf : List Int) (c : Int) (hc : madeL ps fs mp mf = c) (pa fa ma ga : Option Addr) (pc fc mc gc : Nat) (w : World) (hp : PRow w pa ps) (hf : FRow w fa fs) (hm : IRow w ma mp) (hg : IRow w ga mf) :
    Calls Try.prog 104 #[.agg #[.slice pa ps.length pc, .slice fa fs.length fc], .agg #[.slice ma mp.length mc, .slice ga mf.length gc]] w fun e w' => e = .returned (.int .i64 c) ∧ Gr w w' := by
  subst hc
  have hl1 := hp.1
  have hl2 := hf.1
  have hl3 := hm.1
  have hl4 := hg.1
  have gg := Gr.tr (Gr.al w (.cells #[.slice pa ps.length pc, .slice fa fs.length fc] 124)) (Gr.al _ (.cells #[.slice ma mp.length mc, .slice ga mf.length gc] 127))
  have hb := (Box.new w [.slice pa ps.length pc, .slice fa fs.length fc] 124 w.heap.size rfl).keep (Gr.al _ (.cells #[.slice ma mp.length mc, .slice ga mf.length gc] 127))
  have hb2 := Box.new (w.alloc (.cells #[.slice pa ps.length pc, .slice fa fs.length fc] 124)) [.slice ma mp.length mc, .slice ga mf.length gc] 127 (w.heap.size + 1) (by simp)
  have hp1 := hp.grow gg
  have hf1 := hf.grow gg
  have hm1 := hm.grow gg
  have hg1 := hg.grow gg
  by_cases e0 : checkL ps fs = 0
  case neg =>
    have E : madeL ps fs mp mf = checkL ps fs := by unfold madeL; rw [if_pos e0]
    rw [E]
    have e1 : (checkL ps fs != 0) = true := by simpa using e0
    generalize hcc : checkL ps fs = cc at *
    have Hcc := Lib.hid hcc
    clear hcc e0
    go_enter Try.func104, Try.ntmps104
    go_wp2_with (go_at_call 129; refine (check_any ps fs _ Hcc.out _ _ _ _ _ hp1 hf1).mono ?_; rintro e w1 ⟨rfl, hx⟩)
    go_ret
    exact ⟨rfl, gg.tr hx⟩
  case pos =>
    have E0 : madeL ps fs mp mf = if formedL mp mf = false then 4 else if numberedL mp mf ps.length fs.length = false then 7 else if kindsOk ps mp = false then 2 else 0 := by unfold madeL; rw [if_neg (by simp [e0])]
    have H0 := Lib.hid E0
    clear E0
    have e0' := Lib.hid e0
    clear e0
    cases c1 : formedL mp mf with
    | false =>
      have E : madeL ps fs mp mf = 4 := by rw [H0.out, if_pos c1]
      rw [E]
      have C1 := Lib.hid c1
      clear c1
      go_enter Try.func104, Try.ntmps104
      go_wp2_with fail
      refine (check_any ps fs _ e0'.out _ _ _ _ _ hp1 hf1).mono ?_
      rintro e w1 ⟨rfl, hx⟩
      replace gg := gg.tr hx
      replace hb := hb.keep hx
      replace hb2 := hb2.keep hx
      obtain ⟨q0, q1⟩ := hb.c2
      obtain ⟨q2, q3⟩ := hb2.c2
      go_wp2_with fail
      refine (formed_any mp mf _ C1.out _ _ _ _ _).mono ?_
      rintro e w2 ⟨rfl, hx2⟩
      go_wp2
      go_ret
      exact ⟨rfl, gg.tr hx2⟩
    | true =>
      have C1 := Lib.hid c1
      clear c1
      cases c2 : numberedL mp mf ps.length fs.length with
      | false =>
        have E : madeL ps fs mp mf = 7 := by rw [H0.out, if_neg (by rw [C1.out]; decide), if_pos c2]
        rw [E]
        have C2 := Lib.hid c2
        clear c2
        go_enter Try.func104, Try.ntmps104
        go_wp2_with fail
        refine (check_any ps fs _ e0'.out _ _ _ _ _ hp1 hf1).mono ?_
        rintro e w1 ⟨rfl, hx⟩
        replace gg := gg.tr hx
        replace hb := hb.keep hx
        replace hb2 := hb2.keep hx
        obtain ⟨q0, q1⟩ := hb.c2
        obtain ⟨q2, q3⟩ := hb2.c2
        go_wp2_with fail
        refine (formed_any mp mf _ C1.out _ _ _ _ _).mono ?_
        rintro e w2 ⟨rfl, hx2⟩
        replace gg := gg.tr hx2
        replace hb := hb.keep hx2
        replace hb2 := hb2.keep hx2
        obtain ⟨q0, q1⟩ := hb.c2
        obtain ⟨q2, q3⟩ := hb2.c2
        go_wp2_with fail
        refine (numbered_any mp mf _ _ (by omega) (by omega) (by omega) (by omega) _ C2.out _ _ _ _ _ ((hm1.grow hx).grow hx2) ((hg1.grow hx).grow hx2)).mono ?_
        rintro e w3 ⟨rfl, hx3⟩
        go_wp2
        go_ret
        exact ⟨rfl, gg.tr hx3⟩
      | true =>
        have C2 := Lib.hid c2
        clear c2
        have hin : inB 0 ((ps.length : Int) - 1) mp = true := by have h := C2.out; unfold numberedL at h; exact (Bool.and_eq_true _ _ ▸ h).1
        have E0 : madeL ps fs mp mf = if kindsOk ps mp = false then 2 else 0 := by rw [H0.out, if_neg (by rw [C1.out]; decide), if_neg (by rw [C2.out]; decide)]
        have Hin := Lib.hid hin
        have HE := Lib.hid E0
        clear hin E0
        go_enter Try.func104, Try.ntmps104
        go_wp2_with fail
        refine (check_any ps fs _ e0'.out _ _ _ _ _ hp1 hf1).mono ?_
        rintro e w1 ⟨rfl, hx⟩
        replace gg := gg.tr hx
        replace hb := hb.keep hx
        replace hb2 := hb2.keep hx
        obtain ⟨q0, q1⟩ := hb.c2
        obtain ⟨q2, q3⟩ := hb2.c2
        go_wp2_with fail
        refine (formed_any mp mf _ C1.out _ _ _ _ _).mono ?_
        rintro e w2 ⟨rfl, hx2⟩
        replace gg := gg.tr hx2
        replace hb := hb.keep hx2
        replace hb2 := hb2.keep hx2
        obtain ⟨q0, q1⟩ := hb.c2
        obtain ⟨q2, q3⟩ := hb2.c2
        have hm2 := (hm1.grow hx).grow hx2
        have hg2 := (hg1.grow hx).grow hx2
        have hp2 := (hp1.grow hx).grow hx2
        go_wp2_with fail
        refine (numbered_any mp mf _ _ (by omega) (by omega) (by omega) (by omega) _ C2.out _ _ _ _ _ hm2 hg2).mono ?_
        rintro e w3 ⟨rfl, hx3⟩
        replace gg := gg.tr hx3
        replace hb := hb.keep hx3
        replace hb2 := hb2.keep hx3
        obtain ⟨q0, q1⟩ := hb.c2
        obtain ⟨q2, q3⟩ := hb2.c2
        have hm3 := hm2.grow hx3
        have hp3 := hp2.grow hx3
        go_wp2
        go_loopw [28] (fun i wr => ∃ k : Nat, k ≤ mp.length ∧ i = .int .i64 k ∧ (∀ j, j < k → kindOk ps mp j = true) ∧ Gr w3 wr) (fun i wr => mp.length - (intOf i).toNat)
        case atStart => exact ⟨0, Nat.zero_le _, rfl, fun j hj => by omega, Below.refl _ _⟩
        case round =>
          obtain ⟨k, hk, rfl, hall, hG⟩ := hrel
          have Hall := Lib.hid hall
          clear hall q0 q1 q2 q3
          obtain ⟨q0, q1⟩ := (hb.keep hG).c2
          obtain ⟨q2, q3⟩ := (hb2.keep hG).c2
          by_cases hlt : k < mp.length
          · obtain ⟨x, hxk⟩ := get_of_lt hlt
            obtain ⟨hx0, hx1⟩ := in_of_all Hin.out hxk
            obtain ⟨n, rfl⟩ := Int.eq_ofNat_of_zero_le hx0
            have hn : n < ps.length := by omega
            obtain ⟨p, hpn⟩ := get_of_lt hn
            obtain ⟨b0, off0, rfl, hb0, r0⟩ := IRow.get (hm3.grow hG) hxk
            obtain ⟨b1, off1, rfl, hb1, s0, s1, s2, s3, s4, s5, s6, s7⟩ := PRow.get (hp3.grow hG) hpn
            have Hxk := Lib.hid hxk
            have Hpn := Lib.hid hpn
            clear hxk hpn
            have hnI : (n : Int) < (ps.length : Int) := by omega
            cases hk1 : (p.kind != kindL (k : Int)) with
            | true =>
              have hbad : kindOk ps mp k = false := by
                unfold kindOk
                rw [Hxk.out]
                simp only [Int.toNat_natCast, Hpn.out]
                simpa using hk1
              have hE : madeL ps fs mp mf = 2 := by rw [HE.out, if_pos (kindsOk_false hlt hbad)]
              have HE2 := Lib.hid hE
              clear hE hbad
              go_wp2
              go_quiet ((go_at_call 132; exact Calls.quiet_of_same (kindAt_any k (by omega) _)))
              go_wp2
              go_ret
              exact ⟨by rw [HE2.out]; rfl, (gg.tr hG).drewN _⟩
            | false =>
              have hgood : kindOk ps mp k = true := by
                unfold kindOk
                rw [Hxk.out]
                simp only [Int.toNat_natCast, Hpn.out]
                simpa using hk1
              have Hgood := Lib.hid hgood
              clear hgood
              go_wp2
              go_quiet ((go_at_call 132; exact Calls.quiet_of_same (kindAt_any k (by omega) _)))
              go_wp2
              go_roundw
              case rel =>
                refine ⟨k + 1, by omega, by go_num, fun j hj => ?_, hG.drewN _⟩
                by_cases h : j < k
                · exact Hall.out j h
                · have : j = k := by omega
                  subst this
                  exact Hgood.out
              case measure => simp [intOf]; omega
          · have hE : madeL ps fs mp mf = 0 := by
              rw [HE.out, if_neg]
              rw [kindsOk_true (fun j hj => Hall.out j (by omega))]
              decide
            have HE2 := Lib.hid hE
            clear hE
            go_wp2
            go_ret
            exact ⟨by rw [HE2.out]; rfl, gg.tr hG⟩

end Go.Proofs.Ytcdilmagcdbogaa

namespace Go.Proofs.Ytcdilmagcdbogaa
set_option linter.unusedVariables false
set_option linter.unusedSimpArgs false
open Go.RowKit

/-- The flute of a store by its number. -/
def fluteN (fs : List Flute) (n : Int) : Flute := fs.getD n.toNat ⟨1, 1, 1, 1⟩

set_option maxRecDepth 100000 in
set_option maxHeartbeats 1000000 in
theorem flute_any (mp mf : List Int) (ps : List Paper) (fs : List Flute) (parts : Int) (m : Option Nat) (pa fa ma ga : Option Addr) (pc fc mc gc : Nat) (j : Int) (i : Nat) (hj : j = (i : Int)) (n : Nat) (f : Flute) (hi : mf[i]? = some (n : Int)) (hn : fs[n]? = some f) (w : World) (hf : FRow w fa fs) (hg : IRow w ga mf) :
    Calls Try.prog 133 #[.agg #[.slice ma mp.length mc, .slice ga mf.length gc, .slice pa ps.length pc, .slice fa fs.length fc, .int .i64 parts, .map m], .int .i64 j] w fun e w' =>
      e = .returned (.agg #[.int .i64 f.pitch, .int .i64 f.draw, .int .i64 f.hlo, .int .i64 f.hhi]) ∧ Gr w w' := by
  subst hj
  have hl2 := hf.1
  have hl4 := hg.1
  have hi2 : i < mf.length := (List.getElem?_eq_some_iff.1 hi).1
  have hn2 : n < fs.length := (List.getElem?_eq_some_iff.1 hn).1
  have hi3 : (i : Int) < (mf.length : Int) := by omega
  have hn3 : (n : Int) < (fs.length : Int) := by omega
  have gg := Gr.tr (Gr.al w (.cells #[.slice ma mp.length mc, .slice ga mf.length gc, .slice pa ps.length pc, .slice fa fs.length fc, .int .i64 parts, .map m] 182)) (Gr.al _ (.cells #[.int .i64 0, .int .i64 0, .int .i64 0, .int .i64 0] 176))
  have Hi := Lib.hid hi
  have Hn := Lib.hid hn
  clear hi hn
  have ho := Own.new (w.alloc (.cells #[.slice ma mp.length mc, .slice ga mf.length gc, .slice pa ps.length pc, .slice fa fs.length fc, .int .i64 parts, .map m] 182)) [.int .i64 0, .int .i64 0, .int .i64 0, .int .i64 0] 176 (w.heap.size + 1) (by simp)
  have hb := (Box.new w [.slice ma mp.length mc, .slice ga mf.length gc, .slice pa ps.length pc, .slice fa fs.length fc, .int .i64 parts, .map m] 182 w.heap.size rfl).keep (Gr.al _ (.cells #[.int .i64 0, .int .i64 0, .int .i64 0, .int .i64 0] 176))
  have hg1 := hg.grow gg
  have hf1 := hf.grow gg
  go_enter Try.func133, Try.ntmps133
  go_wp2
  refine wp_abs (fun W => Gr w W ∧ Own W (w.heap.size + 1) [.int .i64 0, .int .i64 0, .int .i64 0, .int .i64 0] ∧ Box W w.heap.size [.slice ma mp.length mc, .slice ga mf.length gc, .slice pa ps.length pc, .slice fa fs.length fc, .int .i64 parts, .map m] ∧ IRow W ga mf ∧ FRow W fa fs) ⟨gg, ho, hb, hg1, hf1⟩ ?_
  clear gg ho hb hg1 hf1
  rintro W ⟨gg, ho, hb, hg1, hf1⟩
  obtain ⟨b0, off0, rfl, hb0, r0⟩ := IRow.get hg1 Hi.out
  obtain ⟨b1, off1, rfl, hb1, s0, s1, s2, s3⟩ := FRow.get hf1 Hn.out
  obtain ⟨t0, t1, t2, t3⟩ := ho.1.c4
  obtain ⟨q0, q1, q2, q3, q4, q5⟩ := hb.c6
  have f0 := ho.2 0
  have f1 := ho.2 1
  have f2 := ho.2 2
  have f3 := ho.2 3
  go_still_tail 11, (by kernel_rfl)
  change wpList _ _ _ _ _ W.drew
  go_wp2
  refine bodyPost_ret (v := .agg #[.int .i64 f.pitch, .int .i64 f.draw, .int .i64 f.hlo, .int .i64 f.hhi]) (by simp [results, Try.results133, go_sem, t0, t1, t2, t3]) rfl ⟨rfl, ?_⟩
  exact ((((gg.drew).setCell (by simp) _).setCell (by simp) _).setCell (by simp) _).setCell (by simp) _

set_option maxRecDepth 100000 in
set_option maxHeartbeats 1000000 in
theorem take_even (mp mf : List Int) (ps : List Paper) (fs : List Flute) (parts : Int) (m : Option Nat) (pa fa ma ga : Option Addr) (pc fc mc gc : Nat) (k : Nat) (hk : k ≤ 100) (hk1 : (kindL (k : Int) == 1) = true) (w : World) :
    Calls Try.prog 134 #[.agg #[.slice ma mp.length mc, .slice ga mf.length gc, .slice pa ps.length pc, .slice fa fs.length fc, .int .i64 parts, .map m], .int .i64 k] w fun e w' =>
      e = .returned (.int .i64 parts) ∧ Gr w w' := by
  have gg := Gr.al w (.cells #[.slice ma mp.length mc, .slice ga mf.length gc, .slice pa ps.length pc, .slice fa fs.length fc, .int .i64 parts, .map m] 182)
  go_enter Try.func134, Try.ntmps134
  go_wp2_with (go_at_call 132; refine (kindAt_any k (by omega) _).mono ?_; rintro e w' ⟨rfl, rfl⟩)
  go_ret
  exact ⟨rfl, gg⟩

set_option maxRecDepth 100000 in
set_option maxHeartbeats 1000000 in
theorem take_odd (mp mf : List Int) (ps : List Paper) (fs : List Flute) (parts : Int) (m : Option Nat) (pa fa ma ga : Option Addr) (pc fc mc gc : Nat) (k i n : Nat) (hk : k ≤ 100) (hk0 : 2 * i + 1 ≤ k) (hk2 : k ≤ 2 * i + 1) (hk1 : (kindL (k : Int) == 1) = false)
    (f : Flute) (hi : mf[i]? = some (n : Int)) (hn : fs[n]? = some f) (hp0 : 0 ≤ parts) (hp1 : parts ≤ 1000000000) (hf0 : 1 ≤ f.pitch) (hd0 : 0 ≤ parts / f.pitch) (hd1 : parts / f.pitch ≤ 1000000000) (hm0 : 0 ≤ parts / f.pitch * f.draw) (hm1 : parts / f.pitch * f.draw ≤ 1000000000000)
    (w : World) (hf : FRow w fa fs) (hg : IRow w ga mf) :
    Calls Try.prog 134 #[.agg #[.slice ma mp.length mc, .slice ga mf.length gc, .slice pa ps.length pc, .slice fa fs.length fc, .int .i64 parts, .map m], .int .i64 k] w fun e w' =>
      e = .returned (.int .i64 (parts / f.pitch * f.draw)) ∧ Gr w w' := by
  have gg := Gr.al w (.cells #[.slice ma mp.length mc, .slice ga mf.length gc, .slice pa ps.length pc, .slice fa fs.length fc, .int .i64 parts, .map m] 182)
  have hb := Box.new w [.slice ma mp.length mc, .slice ga mf.length gc, .slice pa ps.length pc, .slice fa fs.length fc, .int .i64 parts, .map m] 182 w.heap.size rfl
  have Hi := Lib.hid hi
  have Hn := Lib.hid hn
  have hf1 := hf.grow gg
  have hg1 := hg.grow gg
  clear hi hn
  go_enter Try.func134, Try.ntmps134
  go_wp2_with (first | (go_at_call 132; refine (kindAt_any k (by omega) _).mono ?_; rintro e w' ⟨rfl, rfl⟩) | (go_at_call 133; refine (flute_any _ _ _ _ _ _ _ _ _ _ _ _ _ _ _ i (by omega) n f Hi.out Hn.out _ hf1 hg1).mono ?_; rintro e w1 ⟨rfl, hx⟩))
  have gx := gg.tr (hx.tr (Gr.al _ (.cells #[.int .i64 f.pitch, .int .i64 f.draw, .int .i64 f.hlo, .int .i64 f.hhi] 176)))
  obtain ⟨t0, t1, t2, t3⟩ := (Box.new w1 [.int .i64 f.pitch, .int .i64 f.draw, .int .i64 f.hlo, .int .i64 f.hhi] 176 w1.heap.size rfl).c4
  obtain ⟨q0, q1, q2, q3, q4, q5⟩ := (hb.keep (hx.tr (Gr.al _ (.cells #[.int .i64 f.pitch, .int .i64 f.draw, .int .i64 f.hlo, .int .i64 f.hhi] 176)))).c6
  go_quiet (fail)
  go_wp2
  go_ret
  exact ⟨rfl, gx.drewN _⟩

end Go.Proofs.Ytcdilmagcdbogaa

namespace Go.Proofs.Ytcdilmagcdbogaa
set_option linter.unusedVariables false
set_option linter.unusedSimpArgs false
open Go.RowKit

theorem key3 : Maps.Keyed Try.prog 3 := Maps.int_keyed Try.underlying3

theorem zero3 (w : World) : (zeroValue 3).run Try.prog w = .ok (.int .i64 0) w := by kernel_rfl

/-- Block b is a map of at most n entries in which each number x leads to f x (0 where x is not in it). -/
def MapIs (w : World) (b n : Nat) (f : Int → Int) : Prop :=
  ∃ D : DataW Unit, Maps.IsMap D ∧ w.ownsMap Try.prog 3 (plainElem Try.prog 3) b n D ∧ ∀ x : Int, D.atKey (.int .i64 x) (.lit (.int .i64 0)) = .lit (.int .i64 (f x))

theorem MapIs.lt {w : World} {b n : Nat} {f : Int → Int} (h : MapIs w b n f) : b < w.heap.size := by
  obtain ⟨D, _, h, _⟩ := h
  exact h.lt

theorem MapIs.keep {w w' : World} {b n : Nat} {f : Int → Int} (h : MapIs w b n f) (g : Gr w w') : MapIs w' b n f := by
  have hlt := h.lt
  obtain ⟨D, hD, ⟨es, clock, hb, F, hs, hd⟩, ha⟩ := h
  exact ⟨D, hD, ⟨es, clock, (g.block b hlt).trans hb, F, hs, hd⟩, ha⟩

theorem MapIs.made (w : World) : MapIs (w.alloc (.map #[] 0)) w.heap.size 0 (fun _ => 0) :=
  ⟨.map [], ⟨[], rfl⟩, World.ownsMap_made _ _ _ _, fun _ => rfl⟩

theorem MapIs.look {w : World} {b n : Nat} {f : Int → Int} (h : MapIs w b n f) (x : Int) (hx : (Lit.int .i64 x).wf = true) :
    (Instr.lookup 180 (.map (some b)) (.int .i64 x) false).run Try.prog w = .ok (.int .i64 (f x)) w := by
  obtain ⟨D, _, ho, ha⟩ := h
  obtain ⟨c, hrun, hat, _⟩ := ho.lookup_int key3 Try.underlying180 Try.underlying3 (zero3 w) (Maps.keyOf_int_mk Try.underlying3 hx)
  rw [ha x] at hat
  have e : f x = c := by
    simp only [DataW.lit.injEq, Lit.int.injEq, true_and] at hat
    exact hat
  rw [hrun, e]

theorem MapIs.put {w : World} {b n : Nat} {f : Int → Int} (h : MapIs w b n f) (hn : n < 1000) (x v : Int) (hx : (Lit.int .i64 x).wf = true) (hv : (Lit.int .i64 v).wf = true) :
    ∃ w', (Instr.mapUpdate 180 (.map (some b)) (.int .i64 x) (.int .i64 v)).run Try.prog w = .ok () w' ∧ MapIs w' b (n + 1) (fun y => if y = x then v else f y) ∧ w.grownBy w' (some b) := by
  obtain ⟨D, hD, ho, ha⟩ := h
  obtain ⟨w', hrun, ho', hg⟩ := ho.update (val := .int .i64 v) (d := .lit (.int .i64 v)) (ps := []) key3 Try.underlying180 (by unfold maxLen; omega) (Maps.keyOf_int_mk Try.underlying3 hx) (plainElem_int Try.underlying3 hv)
  refine ⟨w', hrun, ⟨_, hD.put _ _, ho', fun y => ?_⟩, hg⟩
  by_cases h : y = x
  · subst h
    rw [Maps.atKey_put_same hD (by trivial)]
    show _ = DataW.lit (.int .i64 (if y = y then v else f y))
    rw [if_pos rfl]
  · rw [Maps.atKey_put_other (by intro e; injection e with _ e; exact h e), ha y]
    show _ = DataW.lit (.int .i64 (if y = x then v else f y))
    rw [if_neg h]

theorem wf64 {n : Int} (h1 : -9223372036854775808 ≤ n) (h2 : n ≤ 9223372036854775807) : (Lit.int .i64 n).wf = true := WalkArith.wf_i64 ⟨h1, h2⟩

end Go.Proofs.Ytcdilmagcdbogaa

namespace Go.Proofs.Ytcdilmagcdbogaa
set_option linter.unusedVariables false
set_option linter.unusedSimpArgs false
open Go.RowKit

/-- A board of a store that has no error: its numbers name papers and flutes that are valid. -/
structure Fine (ps : List Paper) (fs : List Flute) (mp mf : List Int) : Prop where
  np : ps.length ≤ 8
  nf : fs.length ≤ 4
  f1 : 1 ≤ mf.length
  f2 : mf.length ≤ 2
  mpl : mp.length = 2 * mf.length + 1
  good : ∀ (n : Nat) (p : Paper), ps[n]? = some p → goodP p = true
  pap : ∀ k, k < mp.length → ∃ (n : Nat) (p : Paper), mp[k]? = some (n : Int) ∧ ps[n]? = some p ∧ p.kind = kindL k
  flu : ∀ i, i < mf.length → ∃ (n : Nat) (f : Flute), mf[i]? = some (n : Int) ∧ fs[n]? = some f ∧ goodF f = true

theorem fine_of_made {ps : List Paper} {fs : List Flute} {mp mf : List Int} (h : madeL ps fs mp mf = 0) : Fine ps fs mp mf := by
  unfold madeL at h
  by_cases c0 : checkL ps fs = 0
  case neg => rw [if_pos c0] at h; exact absurd h c0
  rw [if_neg (by simp [c0])] at h
  by_cases c1 : formedL mp mf = false
  case pos => rw [if_pos c1] at h; cases h
  rw [if_neg c1] at h
  by_cases c2 : numberedL mp mf ps.length fs.length = false
  case pos => rw [if_pos c2] at h; cases h
  rw [if_neg c2] at h
  by_cases c3 : kindsOk ps mp = false
  case pos => rw [if_pos c3] at h; cases h
  have c1' : formedL mp mf = true := by simpa using c1
  have c2' : numberedL mp mf ps.length fs.length = true := by simpa using c2
  have c3' : kindsOk ps mp = true := by simpa using c3
  unfold checkL at c0
  by_cases d1 : 8 < ps.length ∨ 4 < fs.length
  case pos => rw [if_pos d1] at c0; cases c0
  rw [if_neg d1] at c0
  by_cases d2 : ps.length = 0 ∨ fs.length = 0
  case pos => rw [if_pos d2] at c0; cases c0
  rw [if_neg d2] at c0
  by_cases d3 : (ps.all goodP && fs.all goodF) = true
  case neg => rw [if_neg d3] at c0; cases c0
  rw [Bool.and_eq_true] at d3
  unfold formedL at c1'
  rw [Bool.and_eq_true] at c1'
  obtain ⟨e1, e2⟩ := c1'
  simp only [inB, in1, List.all_cons, List.all_nil, Bool.and_true, Bool.and_eq_true, decide_eq_true_eq] at e1
  simp only [beq_iff_eq] at e2
  unfold numberedL at c2'
  rw [Bool.and_eq_true] at c2'
  obtain ⟨g1, g2⟩ := c2'
  refine ⟨by omega, by omega, by omega, by omega, by omega, fun n p hp => List.all_eq_true.1 d3.1 p (List.mem_of_getElem? hp), fun k hk => ?_, fun i hi => ?_⟩
  · obtain ⟨x, hx⟩ := get_of_lt hk
    obtain ⟨h1, h2⟩ := in_of_all g1 hx
    obtain ⟨n, rfl⟩ := Int.eq_ofNat_of_zero_le h1
    obtain ⟨p, hp⟩ := get_of_lt (show n < ps.length by omega)
    refine ⟨n, p, hx, hp, ?_⟩
    have := List.all_eq_true.1 c3' k (by simpa using hk)
    unfold kindOk at this
    rw [hx] at this
    simp only [Int.toNat_natCast, hp] at this
    simpa using this
  · obtain ⟨x, hx⟩ := get_of_lt hi
    obtain ⟨h1, h2⟩ := in_of_all g2 hx
    obtain ⟨n, rfl⟩ := Int.eq_ofNat_of_zero_le h1
    obtain ⟨f, hf⟩ := get_of_lt (show n < fs.length by omega)
    exact ⟨n, f, hx, hf, List.all_eq_true.1 d3.2 f (List.mem_of_getElem? hf)⟩

theorem goodF_iff {f : Flute} (h : goodF f = true) : 1000 ≤ f.pitch ∧ f.pitch ≤ 10000 ∧ f.pitch ≤ f.draw ∧ f.draw ≤ 2 * f.pitch ∧ 1 ≤ f.hlo ∧ f.hlo ≤ f.hhi ∧ f.hhi ≤ 10000 := by
  simp only [goodF, okSpan, inB, in1, List.all_cons, List.all_nil, Bool.and_true, Bool.and_eq_true, decide_eq_true_eq] at h
  omega

theorem goodP_iff {p : Paper} (h : goodP p = true) : (p.kind = 1 ∨ p.kind = 2) ∧ 1 ≤ p.weight ∧ p.weight ≤ 1000 ∧ 1 ≤ p.tlo ∧ p.tlo ≤ p.thi ∧ p.thi ≤ 1000 ∧ 0 ≤ p.mlo ∧ p.mlo ≤ p.mhi ∧ p.mhi ≤ 200 ∧
    0 ≤ p.price ∧ p.price ≤ 1000000 ∧ 0 ≤ p.strong ∧ p.strong ≤ 10000 := by
  simp only [goodP, okSpan, inB, in1, List.all_cons, List.all_nil, Bool.and_true, Bool.and_eq_true, Bool.or_eq_true, beq_iff_eq, decide_eq_true_eq] at h
  omega

/-- The flute at a place of a board, and the paper. -/
def fluteAt (fs : List Flute) (mf : List Int) (i : Nat) : Flute := fluteN fs (mf.getD i 0)

def paperN (ps : List Paper) (n : Int) : Paper := ps.getD n.toNat ⟨1, 1, 1, 1, 1, 1, 1, 1⟩

def partsTo (fs : List Flute) (mf : List Int) : Nat → Int
  | 0 => 1
  | k + 1 => partsTo fs mf k * (fluteAt fs mf k).pitch

def partsL (fs : List Flute) (mf : List Int) : Int := partsTo fs mf mf.length

def takeL (fs : List Flute) (mf : List Int) (k : Nat) : Int :=
  if kindL k == 1 then partsL fs mf else partsL fs mf / (fluteAt fs mf (k / 2)).pitch * (fluteAt fs mf (k / 2)).draw

def usedTo (fs : List Flute) (mp mf : List Int) : Nat → Int → Int
  | 0, _ => 0
  | k + 1, x => if x = mp.getD k 0 then usedTo fs mp mf k x + takeL fs mf k else usedTo fs mp mf k x

def usedL (fs : List Flute) (mp mf : List Int) (x : Int) : Int := usedTo fs mp mf mp.length x

theorem fluteAt_eq {fs : List Flute} {mf : List Int} {i n : Nat} {f : Flute} (h : mf[i]? = some (n : Int)) (hf : fs[n]? = some f) : fluteAt fs mf i = f := by
  simp [fluteAt, fluteN, h, hf]

theorem flute_good {ps : List Paper} {fs : List Flute} {mp mf : List Int} (F : Fine ps fs mp mf) {i : Nat} (hi : i < mf.length) :
    1000 ≤ (fluteAt fs mf i).pitch ∧ (fluteAt fs mf i).pitch ≤ 10000 ∧ (fluteAt fs mf i).pitch ≤ (fluteAt fs mf i).draw ∧ (fluteAt fs mf i).draw ≤ 2 * (fluteAt fs mf i).pitch ∧ 1 ≤ (fluteAt fs mf i).hlo ∧ (fluteAt fs mf i).hlo ≤ (fluteAt fs mf i).hhi ∧ (fluteAt fs mf i).hhi ≤ 10000 := by
  obtain ⟨n, f, h1, h2, h3⟩ := F.flu i hi
  rw [fluteAt_eq h1 h2]
  exact goodF_iff h3

theorem partsTo_bd {ps : List Paper} {fs : List Flute} {mp mf : List Int} (F : Fine ps fs mp mf) : ∀ k, k ≤ mf.length → 1 ≤ partsTo fs mf k ∧ partsTo fs mf k ≤ 10000 ^ k
  | 0, _ => by simp [partsTo]
  | k + 1, hk => by
    obtain ⟨h1, h2⟩ := partsTo_bd F k (by omega)
    obtain ⟨g1, g2, _⟩ := flute_good F (show k < mf.length by omega)
    refine ⟨?_, ?_⟩
    · show 1 ≤ partsTo fs mf k * (fluteAt fs mf k).pitch
      calc (1 : Int) ≤ 1 * 1 := by decide
        _ ≤ _ := Int.mul_le_mul h1 (by omega) (by decide) (by omega)
    · show partsTo fs mf k * (fluteAt fs mf k).pitch ≤ _
      rw [Int.pow_succ]
      exact Int.mul_le_mul h2 g2 (by omega) (by omega)

theorem partsTo_le {ps : List Paper} {fs : List Flute} {mp mf : List Int} (F : Fine ps fs mp mf) {k : Nat} (hk : k ≤ mf.length) : 1 ≤ partsTo fs mf k ∧ partsTo fs mf k ≤ 100000000 := by
  obtain ⟨h1, h2⟩ := partsTo_bd F k hk
  have := F.f2
  refine ⟨h1, Int.le_trans h2 ?_⟩
  have hk2 : k = 0 ∨ k = 1 ∨ k = 2 := by omega
  rcases hk2 with rfl | rfl | rfl <;> decide

theorem parts_bd {ps : List Paper} {fs : List Flute} {mp mf : List Int} (F : Fine ps fs mp mf) : 1 ≤ partsL fs mf ∧ partsL fs mf ≤ 100000000 := partsTo_le F (Nat.le_refl _)

theorem quo_bd {p q : Int} (hp : 0 ≤ p) (hp1 : p ≤ 100000000) (hq : 1 ≤ q) : 0 ≤ p / q ∧ p / q ≤ 100000000 := by
  refine ⟨Int.ediv_nonneg hp (by omega), Int.le_trans (Int.ediv_le_self _ hp) hp1⟩

theorem quo_mul {p q d : Int} (hp : 0 ≤ p) (hp1 : p ≤ 100000000) (hq : 1 ≤ q) (hd0 : 0 ≤ d) (hd : d ≤ 2 * q) : 0 ≤ p / q * d ∧ p / q * d ≤ 200000000 := by
  obtain ⟨h1, _⟩ := quo_bd hp hp1 hq
  refine ⟨Int.mul_nonneg h1 hd0, ?_⟩
  calc p / q * d ≤ p / q * (2 * q) := Int.mul_le_mul_of_nonneg_left hd h1
    _ = 2 * (p / q * q) := by rw [Int.mul_left_comm]
    _ ≤ 2 * p := Int.mul_le_mul_of_nonneg_left (Int.ediv_mul_le p (by omega)) (by decide)
    _ ≤ 200000000 := by omega

theorem kindL_odd {k : Nat} (h : (kindL (k : Int) == 1) = false) : 2 * (k / 2) + 1 ≤ k ∧ k ≤ 2 * (k / 2) + 1 := by
  unfold kindL at h
  split at h
  · cases h
  · omega

theorem take_bd {ps : List Paper} {fs : List Flute} {mp mf : List Int} (F : Fine ps fs mp mf) {k : Nat} (hk : k < mp.length) : 1 ≤ takeL fs mf k ∧ takeL fs mf k ≤ 200000000 := by
  obtain ⟨h1, h2⟩ := parts_bd F
  unfold takeL
  cases hk1 : (kindL (k : Int) == 1) with
  | true => simp only [if_true]; omega
  | false =>
    obtain ⟨o1, o2⟩ := kindL_odd hk1
    have hm := F.mpl
    obtain ⟨g1, g2, g3, g4, _⟩ := flute_good F (show k / 2 < mf.length by omega)
    simp only [Bool.false_eq_true, if_false]
    refine ⟨?_, (quo_mul (by omega) h2 (by omega) (by omega) g4).2⟩
    -- the pitch of a flute of the board divides the parts: it is not above them
    have hdiv : ∀ n, n ≤ mf.length → ∀ i, i < n → (fluteAt fs mf i).pitch ≤ partsTo fs mf n := by
      intro n
      induction n with
      | zero => intro _ i hi; omega
      | succ n ih =>
        intro hn i hi
        obtain ⟨q1, _⟩ := partsTo_le F (show n ≤ mf.length by omega)
        obtain ⟨r1, _⟩ := flute_good F (show n < mf.length by omega)
        show _ ≤ partsTo fs mf n * (fluteAt fs mf n).pitch
        by_cases hin : i < n
        · have := ih (by omega) i hin
          calc (fluteAt fs mf i).pitch ≤ partsTo fs mf n * 1 := by omega
            _ ≤ _ := Int.mul_le_mul_of_nonneg_left (by omega) (by omega)
        · have : i = n := by omega
          subst this
          calc (fluteAt fs mf i).pitch = 1 * (fluteAt fs mf i).pitch := by omega
            _ ≤ _ := Int.mul_le_mul_of_nonneg_right q1 (by omega)
    have h3 := hdiv mf.length (Nat.le_refl _) (k / 2) (by omega)
    have h4 : 1 ≤ partsL fs mf / (fluteAt fs mf (k / 2)).pitch := by
      rw [Int.le_ediv_iff_mul_le (by omega)]
      show 1 * _ ≤ partsTo fs mf mf.length
      omega
    calc (1 : Int) = 1 * 1 := by decide
      _ ≤ _ := Int.mul_le_mul h4 (by omega) (by decide) (by omega)

theorem usedTo_bd {ps : List Paper} {fs : List Flute} {mp mf : List Int} (F : Fine ps fs mp mf) (x : Int) : ∀ k, k ≤ mp.length → 0 ≤ usedTo fs mp mf k x ∧ usedTo fs mp mf k x ≤ 200000000 * k
  | 0, _ => by simp [usedTo]
  | k + 1, hk => by
    obtain ⟨h1, h2⟩ := usedTo_bd F x k (by omega)
    obtain ⟨t1, t2⟩ := take_bd F (show k < mp.length by omega)
    unfold usedTo
    split <;> omega

theorem used_bd {ps : List Paper} {fs : List Flute} {mp mf : List Int} (F : Fine ps fs mp mf) (x : Int) : 0 ≤ usedL fs mp mf x ∧ usedL fs mp mf x ≤ 1000000000 := by
  obtain ⟨h1, h2⟩ := usedTo_bd F x mp.length (Nat.le_refl _)
  have := F.mpl
  have := F.f2
  exact ⟨h1, by unfold usedL; omega⟩

end Go.Proofs.Ytcdilmagcdbogaa

namespace Go.Proofs.Ytcdilmagcdbogaa
set_option linter.unusedVariables false
set_option linter.unusedSimpArgs false
open Go.RowKit

theorem MapIs.other {w : World} {b n c i : Nat} {f : Int → Int} {v : Value} (h : MapIs w b n f) (hne : b ≠ c) : MapIs (w.setCell ⟨c, i, none⟩ v) b n f := by
  obtain ⟨D, hD, ⟨es, clock, hb, F, hs, hd⟩, ha⟩ := h
  exact ⟨D, hD, ⟨es, clock, (Below.heap_setCell _ _ _ _ hne).trans hb, F, hs, hd⟩, ha⟩

theorem MapIs.dr {w : World} {b n : Nat} {f : Int → Int} (h : MapIs w b n f) : MapIs w.drew b n f := h.keep (Gr.dr w)

theorem MapIs.congr {w : World} {b n n' : Nat} {f g : Int → Int} (h : MapIs w b n f) (hn : n ≤ n') (e : ∀ y, f y = g y) : MapIs w b n' g := by
  have : f = g := funext e
  subst this
  obtain ⟨D, hD, ho, ha⟩ := h
  exact ⟨D, hD, ho.mono hn, ha⟩

set_option maxRecDepth 100000 in
theorem take_any (ps : List Paper) (fs : List Flute) (mp mf : List Int) (F : Fine ps fs mp mf) (m : Option Nat) (pa fa ma ga : Option Addr) (pc fc mc gc : Nat) (j : Int) (k : Nat) (hj : j = (k : Int)) (hk : k < mp.length) (w : World) (hf : FRow w fa fs) (hg : IRow w ga mf) :
    Calls Try.prog 134 #[.agg #[.slice ma mp.length mc, .slice ga mf.length gc, .slice pa ps.length pc, .slice fa fs.length fc, .int .i64 (partsL fs mf), .map m], .int .i64 j] w fun e w' =>
      e = .returned (.int .i64 (takeL fs mf k)) ∧ Gr w w' := by
  subst hj
  have h5 := F.mpl
  have h6 := F.f2
  cases hk1 : (kindL (k : Int) == 1) with
  | true =>
    have e : takeL fs mf k = partsL fs mf := by unfold takeL; rw [hk1]; rfl
    rw [e]
    exact take_even mp mf ps fs _ m pa fa ma ga pc fc mc gc k (by omega) hk1 w
  | false =>
    obtain ⟨o1, o2⟩ := kindL_odd hk1
    obtain ⟨n, f, hi, hn, hgf⟩ := F.flu (k / 2) (by omega)
    have ef := fluteAt_eq hi hn
    obtain ⟨p1, p2⟩ := parts_bd F
    obtain ⟨g1, g2, g3, g4, _⟩ := goodF_iff hgf
    have e : takeL fs mf k = partsL fs mf / f.pitch * f.draw := by unfold takeL; rw [hk1, ef]; rfl
    rw [e]
    obtain ⟨a1, a2⟩ := quo_bd (show 0 ≤ partsL fs mf by omega) p2 (show 1 ≤ f.pitch by omega)
    obtain ⟨b1, b2⟩ := quo_mul (show 0 ≤ partsL fs mf by omega) p2 (show 1 ≤ f.pitch by omega) (show 0 ≤ f.draw by omega) g4
    exact take_odd mp mf ps fs _ m pa fa ma ga pc fc mc gc k (k / 2) n (by omega) o1 o2 hk1 f hi hn (by omega) (by omega) (by omega) a1 (by omega) b1 (by omega) w hf hg

theorem field123_0 (a b c d : Value) (w : World) : (Instr.field 176 (.agg #[a, b, c, d]) 0).run Try.prog w = .ok a w := by kernel_rfl

theorem field123_2 (a b c d : Value) (w : World) : (Instr.field 176 (.agg #[a, b, c, d]) 2).run Try.prog w = .ok (.agg #[c, d]) w := by kernel_rfl

end Go.Proofs.Ytcdilmagcdbogaa

namespace Go.Proofs.Ytcdilmagcdbogaa
set_option linter.unusedVariables false
set_option linter.unusedSimpArgs false
open Go.RowKit

theorem owns_keep {w w' : World} {base : Nat} {e : TypeId} {sz : Nat} {v : Value} {n : Nat} {xs : List Value} (h : w.ownsRow base e sz v n xs) (g : Gr w w') : w'.ownsRow base e sz v n xs := by
  obtain ⟨h1, h2⟩ := h
  refine ⟨h1, ?_⟩
  rcases h2 with h2 | ⟨b, cap, cur, hv, hb, hh, r⟩
  · exact .inl h2
  · have hlt : b < w.heap.size := (Array.getElem?_eq_some_iff.1 hh).1
    exact .inr ⟨b, cap, cur, hv, hb, (g.block b hlt).trans hh, r⟩

theorem owns_base {w : World} {base base' : Nat} {e : TypeId} {sz : Nat} {v : Value} {n : Nat} {xs : List Value} (h : w.ownsRow base e sz v n xs) (hb : base' ≤ base) : w.ownsRow base' e sz v n xs := by
  obtain ⟨h1, h2⟩ := h
  refine ⟨h1, ?_⟩
  rcases h2 with h2 | ⟨b, cap, cur, hv, hg, r⟩
  · exact .inl h2
  · exact .inr ⟨b, cap, cur, hv, Nat.le_trans hb hg, r⟩

theorem flat_len {α : Type} {enc : α → List Value} {sz : Nat} (he : ∀ x, (enc x).length = sz) : ∀ l : List α, (l.flatMap enc).length = l.length * sz
  | [] => by simp
  | x :: l => by simp [flat_len he l, he x, Nat.succ_mul, Nat.add_comm]

theorem flat_get {α : Type} {enc : α → List Value} {sz : Nat} (he : ∀ x, (enc x).length = sz) : ∀ (l : List α) (j i : Nat) (x : α) (v : Value), l[j]? = some x → (enc x)[i]? = some v → (l.flatMap enc)[j * sz + i]? = some v
  | [], j, i, x, v, h, _ => by simp at h
  | y :: l, 0, i, x, v, h, hv => by
    simp only [List.getElem?_cons_zero, Option.some.injEq] at h
    subst h
    have hi : i < (enc y).length := (List.getElem?_eq_some_iff.1 hv).1
    simp only [List.flatMap_cons, Nat.zero_mul, Nat.zero_add]
    rw [List.getElem?_append_left hi, hv]
  | y :: l, j + 1, i, x, v, h, hv => by
    simp only [List.getElem?_cons_succ] at h
    have := flat_get he l j i x v h hv
    simp only [List.flatMap_cons]
    rw [List.getElem?_append_right (by rw [he y, Nat.succ_mul]; omega), he y]
    rw [show (j + 1) * sz + i - sz = j * sz + i by rw [Nat.succ_mul]; omega]
    exact this

/-- A row that the call owns is a row. -/
theorem owns_row {α : Type} {enc : α → List Value} {sz : Nat} {w : World} {base : Nat} {e : TypeId} {v : Value} {l : List α} (he : ∀ x, (enc x).length = sz) (hl : l.length ≤ 9223372036854775807) (h : w.ownsRow base e sz v l.length (l.flatMap enc)) :
    ∃ a cap, v = .slice a l.length cap ∧ RowOf sz enc w a l := by
  obtain ⟨h1, h2⟩ := h
  rcases h2 with ⟨hv, hn⟩ | ⟨b, cap, cur, hv, hb, hh, hcap, hmax, hsz, hx⟩
  · refine ⟨none, 0, by rw [hv, hn], hl, fun j x hj => ?_⟩
    have : l = [] := List.eq_nil_of_length_eq_zero hn
    subst this
    simp at hj
  · refine ⟨some ⟨b, 0, none⟩, cap, hv, hl, fun j x hj => ⟨b, 0, rfl, (Array.getElem?_eq_some_iff.1 hh).1, fun i u hu => ?_⟩⟩
    have hf := flat_get he l j i x u hj hu
    rw [← hx] at hf
    have hlt := (List.getElem?_eq_some_iff.1 hf).1
    rw [List.length_take] at hlt
    rw [List.getElem?_take_of_lt (by omega)] at hf
    have hf' : cur[j * sz + i]? = some u := by simpa using hf
    simp only [World.cell?, hh, Nat.zero_add]
    simpa using hf'

theorem flat_snoc {α : Type} (enc : α → List Value) (l : List α) (x : α) : (l ++ [x]).flatMap enc = l.flatMap enc ++ enc x := by simp

theorem owns_lt {w : World} {base : Nat} {e : TypeId} {sz : Nat} {v : Value} {n : Nat} {xs : List Value} (h : w.ownsRow base e sz v n xs) {b : Nat} (hb : v.ownBlock = some b) : base ≤ b := by

  obtain ⟨_, h2⟩ := h
  rcases h2 with ⟨hv, _⟩ | ⟨g, cap, cur, hv, hg, _⟩
  · subst hv; simp [Value.ownBlock] at hb
  · subst hv; simp [Value.ownBlock] at hb; omega

/-- Behind an append onto a row that is the call's own, whatever lay in w lies as it lay. -/
theorem Gr.grown' {w wr w' : World} {base : Nat} {e : TypeId} {sz : Nat} {v : Value} {n : Nat} {xs : List Value} (g : Gr w wr) (h : wr.ownsRow base e sz v n xs) (hb : w.heap.size ≤ base) (hg : wr.grownBy w' v.ownBlock) : Gr w w' :=
  g.grown hg g.size (fun b hb' => Nat.le_trans hb (owns_lt h hb'))

/-- .. and so do the blocks that are no part of the row. -/
theorem Box.grown {w w' : World} {b : Nat} {vs : List Value} {row : Option Nat} (h : Box w b vs) (hg : w.grownBy w' row) (hne : ∀ r, row = some r → b ≠ r) : Box w' b vs := by
  have hb := hg.block b h.1 (fun e => hne b e.symm rfl)
  exact ⟨Nat.lt_of_lt_of_le h.1 hg.size, fun i v hv => (World.cell?_of_block (w := w) (a := ⟨b, i, none⟩) hb).trans (h.2 i v hv)⟩

theorem MapIs.grownRow {w w' : World} {b n : Nat} {f : Int → Int} {row : Option Nat} (h : MapIs w b n f) (hg : w.grownBy w' row) (hne : ∀ r, row = some r → b ≠ r) : MapIs w' b n f := by
  have hlt := h.lt
  obtain ⟨D, hD, ⟨es, clock, hb, F, hs, hd⟩, ha⟩ := h
  exact ⟨D, hD, ⟨es, clock, (hg.block b hlt (fun e => hne b e.symm rfl)).trans hb, F, hs, hd⟩, ha⟩

theorem RowOf.grown {α : Type} {sz : Nat} {enc : α → List Value} {w w' : World} {a : Option Addr} {l : List α} {row : Option Nat} (h : RowOf sz enc w a l) (hg : w.grownBy w' row) (hne : ∀ r b off, row = some r → a = some ⟨b, off, none⟩ → b ≠ r) : RowOf sz enc w' a l := by
  refine ⟨h.1, fun j x hx => ?_⟩
  obtain ⟨b, off, ha, hb, hc⟩ := h.2 j x hx
  have hbk := hg.block b hb (fun e => hne b b off e.symm ha rfl)
  exact ⟨b, off, ha, Nat.lt_of_lt_of_le hb hg.size, fun i v hv => (World.cell?_of_block (w := w) (a := ⟨b, off + j * sz + i, none⟩) hbk).trans (hc i v hv)⟩

theorem cell_news (w : World) (cs : List Value) (t : TypeId) : ∀ (j : Nat) (u : Value), cs[j]? = some u → (w.alloc (.cells cs.toArray t)).cell? ((⟨w.heap.size, 0, none⟩ : Addr).add j) = some u := by
  intro j u h
  have hc := new_cell w cs.toArray t (i := j) (v := u) (by simpa using h)
  unfold Addr.add
  split
  · rename_i h0; subst h0; exact hc
  · simpa using hc

theorem ints_one (l : List Int) : ∀ u ∈ l.map (fun n => Value.int .i64 n), u.oneCell' = true := by
  intro u hu
  obtain ⟨n, _, rfl⟩ := List.mem_map.1 hu
  rfl

end Go.Proofs.Ytcdilmagcdbogaa

namespace Go.Proofs.Ytcdilmagcdbogaa
set_option linter.unusedVariables false
set_option linter.unusedSimpArgs false
open Go.RowKit

/-- The integer of a span by a byte. -/
def inL (lo hi by' : Int) : Int := lo + by' * (hi - lo) / 255

theorem inL_bd {lo hi y : Int} (h : lo ≤ hi) (y0 : 0 ≤ y) (y1 : y ≤ 255) : lo ≤ inL lo hi y ∧ inL lo hi y ≤ hi := by
  have h0 : 0 ≤ y * (hi - lo) := Int.mul_nonneg y0 (by omega)
  have h1 : y * (hi - lo) ≤ 255 * (hi - lo) := Int.mul_le_mul_of_nonneg_right y1 (by omega)
  unfold inL
  omega

theorem inL_0 (lo hi : Int) : inL lo hi 0 = lo := by simp [inL]

theorem inL_255 (lo hi : Int) : inL lo hi 255 = hi := by unfold inL; omega

def encU (n : Int) : List Value := [.int .u8 n]

abbrev URow := RowOf 1 encU

theorem URow.get {w : World} {a : Option Addr} {l : List Int} (h : URow w a l) {j : Nat} {x : Int} (hx : l[j]? = some x) :
    ∃ b off, a = some ⟨b, off, none⟩ ∧ b < w.heap.size ∧ w.cell? ⟨b, off + j, none⟩ = some (.int .u8 x) := by
  obtain ⟨b, off, ha, hb, hc⟩ := h.2 j x hx
  have := hc 0 (.int .u8 x) rfl
  exact ⟨b, off, ha, hb, by simpa using this⟩

/-- Bytes are from 0 to 255. -/
def Bytes (l : List Int) : Prop := ∀ x ∈ l, 0 ≤ x ∧ x ≤ 255

/-- A byte of a list, used again and again. -/
def byteL (l : List Int) (i : Nat) : Int := l.getD (i % l.length) 0

theorem byteL_bd {l : List Int} (h : Bytes l) (i : Nat) : 0 ≤ byteL l i ∧ byteL l i ≤ 255 := by
  unfold byteL
  cases hx : l[i % l.length]? with
  | none => simp [hx]
  | some x => simp only [List.getD_eq_getElem?_getD, hx, Option.getD_some]; exact h x (List.mem_of_getElem? hx)

theorem pubByte_any (l : List Int) (hl : Bytes l) (i : Nat) (hi : i ≤ 1000) (a : Option Addr) (cap : Nat) (w : World) (hr : URow w a l) :
    Calls Try.prog 55 #[.slice a l.length cap, .int .i64 i] w fun e w' => e = .returned (.int .i64 (byteL l i)) ∧ w = w' := by
  have hm := hr.1
  by_cases h0 : l.length = 0
  · have e : l = [] := List.eq_nil_of_length_eq_zero h0
    subst e
    have E := Lib.hid (show byteL [] i = 0 from rfl)
    clear h0
    simp only [List.length_nil]
    go_enter Try.func55, Try.ntmps55
    go_wp2
    go_ret
    exact ⟨ret_int E.out.symm, rfl⟩
  · have hlt : i % l.length < l.length := Nat.mod_lt _ (by omega)
    obtain ⟨x, hx⟩ := get_of_lt hlt
    obtain ⟨b0, off0, rfl, hb0, hc⟩ := hr.get hx
    obtain ⟨x0, x1⟩ := hl x (List.mem_of_getElem? hx)
    have E := Lib.hid (show byteL l i = x by simp [byteL, hx])
    have hz : ((l.length : Int) == 0) = false := by rw [beq_eq_false_iff_ne]; omega
    have hz2 : ¬ (l.length : Int) = 0 := by omega
    have hi0 : (0 : Int) ≤ (i : Int) % (l.length : Int) := Int.emod_nonneg _ hz2
    have hi1 : (i : Int) % (l.length : Int) < (l.length : Int) := Int.emod_lt_of_pos _ (by omega)
    clear hx hlt h0
    go_enter Try.func55, Try.ntmps55
    go_wp2
    go_ret
    exact ⟨ret_int E.out.symm, rfl⟩

theorem flat_index {α : Type} {enc : α → List Value} {sz : Nat} (he : ∀ x, (enc x).length = sz) : ∀ (l : List α) (j : Nat) (u : Value), (l.flatMap enc)[j]? = some u → ∃ q i x, j = q * sz + i ∧ l[q]? = some x ∧ (enc x)[i]? = some u
  | [], j, u, h => by simp at h
  | y :: l, j, u, h => by
    simp only [List.flatMap_cons] at h
    by_cases hj : j < (enc y).length
    · rw [List.getElem?_append_left hj] at h
      exact ⟨0, j, y, by simp, rfl, h⟩
    · rw [List.getElem?_append_right (by omega)] at h
      obtain ⟨q, i, x, e, hx, hu⟩ := flat_index he l _ u h
      rw [he y] at e hj
      refine ⟨q + 1, i, x, by rw [Nat.succ_mul]; omega, by simpa using hx, hu⟩

theorem row_news {α : Type} {enc : α → List Value} {sz : Nat} {w : World} {b off : Nat} {l : List α} (he : ∀ x, (enc x).length = sz) (h : RowOf sz enc w (some ⟨b, off, none⟩) l) :
    ∀ j u, (l.flatMap enc)[j]? = some u → w.cell? ((⟨b, off, none⟩ : Addr).add j) = some u := by
  intro j u hu
  obtain ⟨q, i, x, rfl, hx, hi⟩ := flat_index he l j u hu
  obtain ⟨b', off', e, _, hc⟩ := h.2 q x hx
  injection e with e
  injection e with e1 e2
  subst e1
  subst e2
  have := hc i u hi
  unfold Addr.add
  split
  · rename_i h0
    rw [← this]
    congr 2
    omega
  · rw [← this]
    simp only [Nat.add_assoc]

theorem owns_empty (w : World) (e : TypeId) (sz : Nat) : (w.alloc (.cells #[] e)).ownsRow w.heap.size e sz (.slice (some ⟨w.heap.size, 0, none⟩) 0 0) 0 [] :=
  ⟨by simp, .inr ⟨w.heap.size, 0, #[], rfl, Nat.le_refl _, by show (Array.push w.heap _)[_]? = _; simp, Nat.le_refl _, Nat.zero_le _, by simp, by simp⟩⟩

theorem RowOf.addr {α : Type} {sz : Nat} {enc : α → List Value} {w : World} {a : Option Addr} {l : List α} (h : RowOf sz enc w a l) (h0 : 0 < l.length) : ∃ b off, a = some ⟨b, off, none⟩ ∧ b < w.heap.size := by
  obtain ⟨x, hx⟩ := get_of_lt h0
  obtain ⟨b, off, ha, hb, _⟩ := h.2 0 x hx
  exact ⟨b, off, ha, hb⟩

theorem one_flat {α : Type} {enc : α → List Value} (he : ∀ x, ∀ u ∈ enc x, u.oneCell' = true) (l : List α) : ∀ u ∈ l.flatMap enc, u.oneCell' = true := by
  intro u hu
  obtain ⟨x, _, hx⟩ := List.mem_flatMap.1 hu
  exact he x u hx

theorem infoInt : (Try.prog.info? 3).map (fun i => (i.zero, i.size, i.bytes)) = some (some (.int .i64 0), 1, 8) := by kernel_rfl

/-- An address in a block from n on. -/
def NewAt (n : Nat) (a : Option Addr) : Prop := ∀ b off c, a = some ⟨b, off, c⟩ → n ≤ b

theorem NewAt.lit (b off n : Nat) (h : n ≤ b) : NewAt n (some ⟨b, off, none⟩) := by
  intro b' off' c e
  injection e with e
  injection e with e1 _ _
  omega

theorem NewAt.le {m n : Nat} {a : Option Addr} (h : NewAt n a) (hm : m ≤ n) : NewAt m a := fun b off c e => Nat.le_trans hm (h b off c e)

/-- A row that the call owns is a row, in a block of the call's own. -/
theorem owns_row_new {α : Type} {enc : α → List Value} {sz : Nat} {w : World} {base : Nat} {e : TypeId} {v : Value} {l : List α} (he : ∀ x, (enc x).length = sz) (hl : l.length ≤ 9223372036854775807) (h : w.ownsRow base e sz v l.length (l.flatMap enc)) :
    ∃ a cap, v = .slice a l.length cap ∧ RowOf sz enc w a l ∧ NewAt base a := by
  obtain ⟨a, cap, hv, hr⟩ := owns_row he hl h
  refine ⟨a, cap, hv, hr, fun b off c ea => ?_⟩
  subst ea
  subst hv
  exact owns_lt h rfl

theorem RowOf.other {α : Type} {sz : Nat} {enc : α → List Value} {w : World} {a : Option Addr} {l : List α} {c i n : Nat} {v : Value} (h : RowOf sz enc w a l) (hn : NewAt n a) (hc : c < n) : RowOf sz enc (w.setCell ⟨c, i, none⟩ v) a l := by
  refine ⟨h.1, fun j x hx => ?_⟩
  obtain ⟨b, off, ha, hb, hcl⟩ := h.2 j x hx
  refine ⟨b, off, ha, by simpa using hb, fun k u hu => ?_⟩
  have := hn b off none ha
  rw [cell_set_ne v (.inl (by omega))]
  exact hcl k u hu

theorem RowOf.older {α : Type} {sz : Nat} {enc : α → List Value} {w w1 : World} {a : Option Addr} {l : List α} {c i : Nat} {v : Value} (h : RowOf sz enc w a l) (h0 : RowOf sz enc w1 a l) (hc : w1.heap.size ≤ c) : RowOf sz enc (w.setCell ⟨c, i, none⟩ v) a l := by
  refine ⟨h.1, fun j x hx => ?_⟩
  obtain ⟨b, off, ha, hb, hcl⟩ := h.2 j x hx
  obtain ⟨b', off', ha', hb', _⟩ := h0.2 j x hx
  have e : b = b' := by rw [ha] at ha'; injection ha' with e; injection e
  refine ⟨b, off, ha, by simpa using hb, fun k u hu => ?_⟩
  rw [cell_set_ne v (.inl (by omega))]
  exact hcl k u hu

/-- A row of ints is handed back, in a block of the call's own. -/
def IntsPost (l : List Int) (w : World) (e : Ending) (w' : World) : Prop := ∃ a' cap', e = .returned (.slice a' l.length cap') ∧ Gr w w' ∧ IRow w' a' l ∧ NewAt w.heap.size a'

set_option maxHeartbeats 400000 in
/-- A copy of integers. -/
theorem pubInts_any (l : List Int) (h0 : 0 < l.length) (hl : l.length ≤ 1000) (a : Option Addr) (cap : Nat) (w : World) (hr : IRow w a l) :
    Calls Try.prog 19 #[.slice a l.length cap] w (IntsPost l w) := by
  obtain ⟨b, off, rfl, hb⟩ := hr.addr h0
  obtain ⟨i0, hi, hz0, hz1, hz2⟩ := info_parts infoInt
  have hr1 := hr.grow (Gr.al w (.cells #[] 3))
  have h1 : 0 + l.length ≤ maxLen := by unfold maxLen; omega
  have h2 : (0 + l.length) * 8 ≤ 140737488355328 := by omega
  have hfl := flat_len (enc := encI) (sz := 1) (fun _ => rfl) l
  have hnews := row_news (enc := encI) (sz := 1) (fun _ => rfl) hr1
  have Hfl := Lib.hid hfl
  have Hnews := Lib.hid hnews
  clear hfl hnews
  go_enter Try.func19, Try.ntmps19
  go_wp2_with (at_builtin; refine wpList_append_own _ rfl _ _ 24 rfl w.heap.size 3 i0 (.int .i64 0) 1 8 Try.underlying24 hi hz0 hz1 hz2 rfl (by decide) _ _ _ rfl (owns_empty w _ _) ⟨b, off, none⟩ l.length cap (l.flatMap encI) rfl Hfl.out Hnews.out (one_flat (fun x u hu => by simp [encI] at hu; subst hu; rfl) l) h1 h2 (by simp) ?_; intro v' w1 hown hgrow _)
  obtain ⟨a', cap', hv, hr2, hn2⟩ := owns_row_new (enc := encI) (l := l) (fun _ => rfl) (by omega) (by simpa using hown)
  subst hv
  have Hr2 := Lib.hid hr2
  have Hn2 := Lib.hid hn2
  clear hr2 hn2 hown
  go_wp2
  go_ret
  exact ⟨a', cap', rfl, (Gr.al w _).grown' (owns_empty w _ 1) (Nat.le_refl _) hgrow, Hr2.out, Hn2.out⟩

end Go.Proofs.Ytcdilmagcdbogaa

namespace Go.Proofs.Ytcdilmagcdbogaa
set_option linter.unusedVariables false
set_option linter.unusedSimpArgs false
open Go.RowKit

theorem wp_region_inv' {P : Program} {Q : Exit → Act → World → Prop} {id : Nat} {a : Act} {w : World} {l : List Oper} (n : Nat) (ds : List (Nat × Nat)) (JJ : Act → Array Bool → Act → World → Prop) (hm : P.follows .mixedOrders = true)
    (hB : (decide (n < l.toArray.size) && Region.sinkB .any l.toArray n && Region.chainB .any l.toArray n && minB .any l.toArray n && Region.seqB .any l.toArray (l.toArray.size - n) n (Array.replicate n true ++ Array.replicate (l.toArray.size - n) false)) = true)
    (hD : depB .any l.toArray ds = true)
    (hJ : JJ a (Array.replicate l.toArray.size false) a w.drew)
    (hstep : ∀ i, i < n → ∀ listed a1 w, listed.getD i true = false → (∀ j, (i, j) ∈ ds → listed.getD j false = true) → JJ a listed a1 w → wpOp P l.toArray Q i (fun a' w' => JJ a (listed.setIfInBounds i true) a' w') a1 w)
    (hend : ∀ listed a1 w, n ≤ listed.size → (∀ j, j < n → listed.getD j true = true) → JJ a listed a1 w → wpList P l.toArray Q (l.drop n) a1 w) : (Code.region id l.toArray true).wp P Q a w :=
  wp_region_inv n (JJ a) hm hB hJ (fun i o hi ho listed a1 w _ hun hdep hJ => hstep i hi listed a1 w hun (fun j hj => by
    obtain ⟨e, he, hb, hj'⟩ := depB_spec hD hj ho
    rw [← hj']
    exact hdep e he hb) hJ)
    (fun listed a1 w hs hall hJ => hend listed a1 w (by
      have h1 : n < l.toArray.size := by
        simp only [Bool.and_eq_true, decide_eq_true_eq] at hB
        exact hB.1.1.1.1
      omega) hall hJ)

/-- It has come up: then A. -/
def Fact (l : Array Bool) (i : Nat) (A : Prop) : Prop := l.getD i false = true → A

theorem Fact.keep {l : Array Bool} {i j : Nat} {A : Prop} (h : Fact l j A) (hij : i ≠ j) : Fact (l.setIfInBounds i true) j A := fun e => h (by rwa [getD_set_ne false hij] at e)

theorem Fact.lay {l : Array Bool} {i : Nat} {A : Prop} (h : A) : Fact l i A := fun _ => h

theorem Fact.map {l : Array Bool} {j : Nat} {A B : Prop} (h : Fact l j A) (f : A → B) : Fact l j B := fun e => f (h e)

theorem Fact.no (n j : Nat) (A : Prop) : Fact (Array.replicate n false) j A := fun h => by rw [getD_replicate_false] at h; cases h

theorem Fact.now {l : Array Bool} {n j : Nat} {A : Prop} (h : Fact l j A) (hn : ∀ j, j < n → l.getD j true = true) (hs : n ≤ l.size) (hj : j < n) : A := by
  apply h
  have := hn j hj
  have hl : j < l.size := by omega
  simp [hl] at this ⊢
  exact this

/-- Rows at A, new variables at Bs: none of the rows lies in one of the variables. -/
structure Sep (w0 w : World) (A : List (Option Addr)) (Bs : List Nat) : Prop where
  gr : Gr w0 w
  bs : ∀ B ∈ Bs, w0.heap.size ≤ B ∧ B < w.heap.size
  ro : ∀ x ∈ A, ∃ b off, x = some ⟨b, off, none⟩ ∧ b < w.heap.size ∧ ∀ B ∈ Bs, b ≠ B

theorem Sep.call {w0 w w' : World} {A : List (Option Addr)} {Bs : List Nat} (h : Sep w0 w A Bs) (g : Gr w w') (A' : List (Option Addr)) (hA : ∀ x ∈ A', NewAt w.heap.size x ∧ ∃ b off, x = some ⟨b, off, none⟩ ∧ b < w'.heap.size) : Sep w0 w' (A' ++ A) Bs := by
  refine ⟨h.gr.tr g, fun B hB => ⟨(h.bs B hB).1, Nat.lt_of_lt_of_le (h.bs B hB).2 g.size⟩, fun x hx => ?_⟩
  rcases List.mem_append.1 hx with hx | hx
  · obtain ⟨hn, b, off, e, hb⟩ := hA x hx
    exact ⟨b, off, e, hb, fun B hB => by have := hn b off none e; have := (h.bs B hB).2; omega⟩
  · obtain ⟨b, off, e, hb, hne⟩ := h.ro x hx
    exact ⟨b, off, e, Nat.lt_of_lt_of_le hb g.size, hne⟩

theorem Sep.al {w0 w : World} {A : List (Option Addr)} {Bs : List Nat} (h : Sep w0 w A Bs) (o : Obj) : Sep w0 (w.alloc o) A (w.heap.size :: Bs) := by
  refine ⟨h.gr.tr (Gr.al _ _), fun B hB => ?_, fun x hx => ?_⟩
  · have hs := h.gr.size
    rcases List.mem_cons.1 hB with rfl | hB
    · exact ⟨hs, by simp⟩
    · have := h.bs B hB
      exact ⟨this.1, by simp; omega⟩
  · obtain ⟨b, off, e, hb, hne⟩ := h.ro x hx
    refine ⟨b, off, e, by simp; omega, fun B hB => ?_⟩
    rcases List.mem_cons.1 hB with rfl | hB
    · omega
    · exact hne B hB

theorem Sep.ne {w0 w : World} {A : List (Option Addr)} {Bs : List Nat} (h : Sep w0 w A Bs) {b off : Nat} (ha : some ⟨b, off, none⟩ ∈ A) {B : Nat} (hB : B ∈ Bs) : b ≠ B := by
  obtain ⟨b', off', e, _, hne⟩ := h.ro _ ha
  cases e
  exact hne B hB

theorem RowOf.setAt {α : Type} {sz : Nat} {enc : α → List Value} {w : World} {a : Option Addr} {l : List α} (h : RowOf sz enc w a l) {c : Nat} (hne : ∀ b off, a = some ⟨b, off, none⟩ → b ≠ c) (i : Nat) (v : Value) : RowOf sz enc (w.setCell ⟨c, i, none⟩ v) a l := by
  refine ⟨h.1, fun j x hx => ?_⟩
  obtain ⟨b, off, e, hb, hc⟩ := h.2 j x hx
  exact ⟨b, off, e, by simpa using hb, fun k u hu => by rw [cell_set_ne v (.inl (hne b off e))]; exact hc k u hu⟩

theorem Sep.apart {w0 w : World} {A : List (Option Addr)} {Bs : List Nat} (h : Sep w0 w A Bs) {x : Option Addr} (hx : x ∈ A) {B : Nat} (hB : B ∈ Bs) : ∀ b off, x = some ⟨b, off, none⟩ → b ≠ B := by
  rintro b off rfl
  exact h.ne hx hB

/-- A block of cells, as it was made. -/
def Blk (w : World) (B : Nat) (vs : List Value) (t : TypeId) : Prop := w.heap[B]? = some (.cells vs.toArray t (0, 0))

theorem Blk.new (w : World) (vs : List Value) (t : TypeId) : Blk (w.alloc (.cells vs.toArray t)) w.heap.size vs t := World.alloc_heap_new w _

theorem Blk.keep {w w' : World} {B : Nat} {vs : List Value} {t : TypeId} (h : Blk w B vs t) (g : Gr w w') : Blk w' B vs t := (g.block B (Array.getElem?_eq_some_iff.1 h).1).trans h

theorem Blk.ne {w : World} {B B' : Nat} {vs vs' : List Value} {t t' : TypeId} (h : Blk w B vs t) (h' : Blk w B' vs' t') (ht : t ≠ t') : B ≠ B' := by
  rintro rfl
  have := h.symm.trans h'
  simp at this
  exact ht this.2

theorem Blk.own {w : World} {B : Nat} {vs : List Value} {t : TypeId} (h : Blk w B vs t) : Own w B vs :=
  ⟨⟨(Array.getElem?_eq_some_iff.1 h).1, fun i v hv => by simp only [World.cell?, show w.heap[B]? = _ from h]; simpa using hv⟩, fun i => by simp [World.frozen?, show w.heap[B]? = _ from h]⟩

end Go.Proofs.Ytcdilmagcdbogaa

namespace Go.Proofs.Ytcdilmagcdbogaa
set_option linter.unusedVariables false
set_option linter.unusedSimpArgs false
open Go.RowKit

/-- What is said of a value stays while the world grows. -/
def Stays (F : World → Value → Prop) : Prop := ∀ v v' x, Gr v v' → F v x → F v' x

theorem Stays.eq (u : Value) : Stays (fun _ x => x = u) := fun _ _ _ _ h => h

theorem Stays.tr : Stays (fun _ _ => True) := fun _ _ _ _ _ => trivial

/-- x, but u at i. -/
def upd (x : Nat → Value) (i : Nat) (u : Value) (j : Nat) : Value := bif j == i then u else x j

theorem upd_at (x : Nat → Value) (i : Nat) (u : Value) : upd x i u i = u := by simp [upd]

theorem upd_ne (x : Nat → Value) {i j : Nat} (u : Value) (h : j ≠ i) : upd x i u j = x j := by
  have e : (j == i) = false := by simpa using h
  simp [upd, e]

theorem upd_of {x : Nat → Value} {i : Nat} {u : Value} (h : x i = u) : ∃ y, x = upd y i u := ⟨x, by
  funext j
  by_cases e : j = i
  · subst e
    rw [upd_at, h]
  · rw [upd_ne x u e]⟩

theorem wp_region_facts {P : Program} {Q : Exit → Act → World → Prop} {id : Nat} {W : World} {l : List Oper} (n : Nat) (ds : List (Nat × Nat)) (fr : (Nat → Value) → Act) (x0 : Nat → Value) (Fs : List (World → Value → Prop)) {a : Act} (ha : a = fr x0) (hm : P.follows .mixedOrders = true)
    (hB : (decide (n < l.toArray.size) && Region.sinkB .any l.toArray n && Region.chainB .any l.toArray n && minB .any l.toArray n && Region.seqB .any l.toArray (l.toArray.size - n) n (Array.replicate n true ++ Array.replicate (l.toArray.size - n) false)) = true)
    (hD : depB .any l.toArray ds = true)
    (hst : ∀ (i : Nat) (F : World → Value → Prop), Fs[i]? = some F → Stays F)
    (hstep : ∀ i, i < n → ∀ x v, Gr W v → (∀ (j : Nat) (F : World → Value → Prop), (i, j) ∈ ds → Fs[j]? = some F → F v (x j)) → ∀ K : Act → World → Prop, (∀ u v', Gr v v' → (∀ F : World → Value → Prop, Fs[i]? = some F → F v' u) → K (fr (upd x i u)) v') → wpOp P l.toArray Q i K (fr x) v)
    (hend : ∀ x v, Gr W v → (∀ (j : Nat) (F : World → Value → Prop), j < n → Fs[j]? = some F → F v (x j)) → wpList P l.toArray Q (l.drop n) (fr x) v) : (Code.region id l.toArray true).wp P Q a W := by
  subst ha
  refine wp_region_inv' n ds (fun _ listed a v => ∃ x, a = fr x ∧ Gr W v ∧ ∀ (j : Nat) (F : World → Value → Prop), Fs[j]? = some F → listed.getD j false = true → F v (x j)) hm hB hD ⟨x0, rfl, Gr.dr W, fun j F _ h => by rw [getD_replicate_false] at h; cases h⟩ ?_ ?_
  · rintro i hi listed a v hun hdep ⟨x, rfl, gv, hf⟩
    refine hstep i hi x v gv (fun j F hj hF => hf j F hF (hdep j hj)) _ (fun u v' hg hu => ⟨upd x i u, rfl, gv.tr hg, fun j F hF hl => ?_⟩)
    by_cases e : j = i
    · subst e
      rw [upd_at]
      exact hu F hF
    · rw [upd_ne x u e]
      exact hst j F hF v v' _ hg (hf j F hF (by rwa [getD_set_ne false (fun e' => e e'.symm)] at hl))
  · rintro listed a v hs hall ⟨x, rfl, gv, hf⟩
    refine hend x v gv (fun j F hj hF => hf j F hF ?_)
    have h1 := hall j hj
    have hl : j < listed.size := by omega
    simp [hl] at h1 ⊢
    exact h1

/-- What is said of each, one after another. -/
theorem stays_nil : ∀ (i : Nat) (F : World → Value → Prop), ([] : List (World → Value → Prop))[i]? = some F → Stays F := fun i F h => by simp at h

theorem stays_cons {G : World → Value → Prop} {Fs : List (World → Value → Prop)} (h : Stays G) (hs : ∀ (i : Nat) (F : World → Value → Prop), Fs[i]? = some F → Stays F) : ∀ (i : Nat) (F : World → Value → Prop), (G :: Fs)[i]? = some F → Stays F
  | 0, F, e => by simp at e; subst e; exact h
  | i + 1, F, e => hs i F (by simpa using e)

theorem at_of {Fs : List (World → Value → Prop)} {i : Nat} {G : World → Value → Prop} {v : World} {u : Value} (h : Fs[i]? = some G) (hG : G v u) : ∀ F : World → Value → Prop, Fs[i]? = some F → F v u := by
  intro F e
  rw [h] at e
  cases e
  exact hG

end Go.Proofs.Ytcdilmagcdbogaa

namespace Go.Proofs.Ytcdilmagcdbogaa
set_option linter.unusedVariables false
set_option linter.unusedSimpArgs false
open Go.RowKit

section
variable {P : Program} {Q : Exit → Act → World → Prop} {l₀ m : Nat}

theorem rowsIn_round {row : String} {args : Array Value} {w : World} {R : Value → World → Prop} (h : Rows P row args w R) : RowsIn (Fence.wide.inRound l₀) m P row args w R :=
  fun c cs _ => let ⟨v, w', r, s⟩ := h c cs; ⟨v, w', r, stepsIn_wide.2 s⟩

theorem operIn_of {o : Oper} {a : Act} {w : World} {K : Act → World → Prop} (hd : ∀ c, o.op ≠ .defer c) (h : o.wp P a w K Q) : o.wpIn (Fence.wide.inRound l₀) m P a w K Q := by
  unfold Oper.wpIn
  refine ⟨fun _ _ => trivial, ?_⟩
  rw [Oper.semAt_plain _ _ _ hd]
  unfold Oper.wp at h
  generalize (execOp a.eval o).run P w = r at *
  cases r with
  | ok x w' =>
    cases x <;> simp only [Oper.upon, Oper.uponIn] at h ⊢ <;>
      first
        | exact h
        | exact ⟨fun e => (by cases e), CallsIn.inRound l₀ (callsIn_wide.2 h)⟩
        | exact ⟨fun e => (by cases e), rowsIn_round h⟩
  | halt x w' => cases x <;> simp only [Oper.upon, Oper.uponIn] at h ⊢ <;> exact h

theorem opIn_of {ops : Array Oper} {i : Nat} {K : Act → World → Prop} {a : Act} {w : World} (hd : ∀ o, ops[i]? = some o → ∀ c, o.op ≠ .defer c) (hq : ¬ LetsOut Q) (h : wpOp P ops Q i K a w) : wpOpIn (Fence.wide.inRound l₀) m P ops Q i K a w := by
  unfold wpOp at h
  unfold wpOpIn
  cases ho : ops[i]? with
  | none => rw [ho] at h; exact h
  | some o =>
    rw [ho] at h
    simp only at h ⊢
    split
    · rename_i hw
      rw [if_pos hw] at h
      rcases h with h | h
      · exact operIn_of (hd o ho) h
      · exact absurd h.2 hq
    · rename_i hw
      rw [if_neg hw] at h
      exact ⟨fun _ _ => trivial, h⟩

theorem anyIn_of {md : Region.Mode} {ops : Array Oper} (hd : ∀ (i : Nat) (o : Oper), ops[i]? = some o → ∀ c, o.op ≠ .defer c) (hq : ¬ LetsOut Q) : ∀ (fuel : Nat) (listed : Array Bool) (a : Act) (w : World), wpAny P md ops Q fuel listed a w → wpAnyIn (Fence.wide.inRound l₀) m P md ops Q fuel listed a w
  | 0, _, _, _, h => h
  | fuel + 1, listed, a, w, h => ⟨h.1, fun i hi => wpOpIn_mono (fun a' w' h' => anyIn_of hd hq fuel _ a' w' h') (opIn_of (hd i) hq (h.2 i hi))⟩

def noDefer (ops : Array Oper) : Bool := ops.all fun o => match o.op with | .defer _ => false | _ => true

theorem noDefer_spec {ops : Array Oper} (h : noDefer ops = true) : ∀ (i : Nat) (o : Oper), ops[i]? = some o → ∀ c, o.op ≠ .defer c := by
  intro i o ho c e
  have hm : o ∈ ops := Array.mem_of_getElem? ho
  have := (Array.all_eq_true_iff_forall_mem.1 h) o hm
  rw [e] at this
  cases this

theorem any_region_inv {a : Act} {w : World} {l : List Oper} (n : Nat) (J : Array Bool → Act → World → Prop)
    (hB : (decide (n < l.toArray.size) && Region.sinkB .any l.toArray n && Region.chainB .any l.toArray n && minB .any l.toArray n && Region.seqB .any l.toArray (l.toArray.size - n) n (Array.replicate n true ++ Array.replicate (l.toArray.size - n) false)) = true)
    (hJ : J (Array.replicate l.toArray.size false) a w.drew)
    (hstep : ∀ i o, i < n → l.toArray[i]? = some o → ∀ listed a w, listed.size = l.toArray.size → listed.getD i true = false → (∀ e ∈ o.after, Region.binds .any e = true → listed.getD e.on false = true) → J listed a w → wpOp P l.toArray Q i (fun a' w' => J (listed.setIfInBounds i true) a' w') a w)
    (hend : ∀ listed a w, listed.size = l.toArray.size → (∀ j, j < n → listed.getD j true = true) → J listed a w → wpList P l.toArray Q (l.drop n) a w) : wpAny P .any l.toArray Q l.toArray.size (Array.replicate l.toArray.size false) a w.drew := by
  simp only [Bool.and_eq_true, decide_eq_true_eq] at hB
  obtain ⟨⟨⟨⟨hn, hs⟩, hc⟩, hmin⟩, hseq⟩ := hB
  have hn' : n < l.length := by simpa using hn
  have hdl : (l.drop n).length = l.toArray.size - n := by simp
  have inv0 : HeadInv .any l.toArray n (Array.replicate l.toArray.size false) :=
    ⟨by simp, fun j oj _ hl => (by rw [getD_replicate_false] at hl; cases hl), fun t _ ht => getD_in (by simpa using ht) (getD_replicate_false _ _)⟩
  have := wpAny_inv (md := .any) (g := l.toArray.size - n) (Q := Q) hs hc hn hmin J hstep (fun listed a' w' inv hall hJ' => by
    have e : listed = Array.replicate n true ++ Array.replicate (l.toArray.size - n) false := by
      apply Array.ext
      · rw [inv.size]; simp; omega
      · intro j h1 h2
        rcases Nat.lt_or_ge j n with h | h
        · have := hall j h
          simp [h1] at this
          rw [this, Array.getElem_append_left (by simpa using h)]
          simp
        · have := inv.tail j h (by rw [inv.size] at h1; exact h1)
          simp [h1] at this
          rw [this, Array.getElem_append_right (by simpa using h)]
          simp
    have h := wpAny_of_seq (md := .any) (Q' := Q) (l.drop n) n listed a' w' (fun j => by simp [List.getElem?_drop]) (by rw [hdl, e]; exact hseq) (hend listed a' w' inv.size hall hJ')
    rwa [hdl] at h) n (Array.replicate l.toArray.size false) a w.drew inv0 (remN_full _ n (by omega)) hJ
  rw [show n + (l.toArray.size - n) = l.toArray.size by omega] at this
  exact this

/-- wp_region_facts within a round. -/
theorem wpIn_region_facts {id : Nat} {W : World} {l : List Oper} (n : Nat) (ds : List (Nat × Nat)) (fr : (Nat → Value) → Act) (x0 : Nat → Value) (Fs : List (World → Value → Prop)) {a : Act} (ha : a = fr x0) (hm : P.follows .mixedOrders = true)
    (hB : (decide (n < l.toArray.size) && Region.sinkB .any l.toArray n && Region.chainB .any l.toArray n && minB .any l.toArray n && Region.seqB .any l.toArray (l.toArray.size - n) n (Array.replicate n true ++ Array.replicate (l.toArray.size - n) false)) = true)
    (hD : depB .any l.toArray ds = true) (hnd : noDefer l.toArray = true) (hq : ¬ LetsOut Q)
    (hst : ∀ (i : Nat) (F : World → Value → Prop), Fs[i]? = some F → Stays F)
    (hstep : ∀ i, i < n → ∀ x v, Gr W v → (∀ (j : Nat) (F : World → Value → Prop), (i, j) ∈ ds → Fs[j]? = some F → F v (x j)) → ∀ K : Act → World → Prop, (∀ u v', Gr v v' → (∀ F : World → Value → Prop, Fs[i]? = some F → F v' u) → K (fr (upd x i u)) v') → wpOp P l.toArray Q i K (fr x) v)
    (hend : ∀ x v, Gr W v → (∀ (j : Nat) (F : World → Value → Prop), j < n → Fs[j]? = some F → F v (x j)) → wpList P l.toArray Q (l.drop n) (fr x) v) : (Code.region id l.toArray true).wpIn (Fence.wide.inRound l₀) m P Q a W := by
  subst ha
  refine wpIn_region_any hm (anyIn_of (noDefer_spec hnd) hq _ _ _ _ ?_)
  refine any_region_inv (w := W) n (fun listed a v => ∃ x, a = fr x ∧ Gr W v ∧ ∀ (j : Nat) (F : World → Value → Prop), Fs[j]? = some F → listed.getD j false = true → F v (x j)) hB ⟨x0, rfl, Gr.dr W, fun j F _ h => by rw [getD_replicate_false] at h; cases h⟩ ?_ ?_
  · rintro i o hi ho listed a v _ hun hdep ⟨x, rfl, gv, hf⟩
    refine hstep i hi x v gv (fun j F hj hF => hf j F hF ?_) _ (fun u v' hg hu => ⟨upd x i u, rfl, gv.tr hg, fun j F hF hl => ?_⟩)
    · obtain ⟨e, he, hb, hj'⟩ := depB_spec hD hj ho
      rw [← hj']
      exact hdep e he hb
    by_cases e : j = i
    · subst e
      rw [upd_at]
      exact hu F hF
    · rw [upd_ne x u e]
      exact hst j F hF v v' _ hg (hf j F hF (by rwa [getD_set_ne false (fun e' => e e'.symm)] at hl))
  · rintro listed a v hs hall ⟨x, rfl, gv, hf⟩
    refine hend x v gv (fun j F hj hF => hf j F hF ?_)
    have h1 := hall j hj
    have hn : n < l.toArray.size := by
      simp only [Bool.and_eq_true, decide_eq_true_eq] at hB
      exact hB.1.1.1.1
    have hl : j < listed.size := by omega
    simp [hl] at h1 ⊢
    exact h1

end

end Go.Proofs.Ytcdilmagcdbogaa
