/- Base: what a world holds for lists of numbers and structs; how it grows. Contracts of Within, Valid: all numbers of a list lie between two numbers. What a store into one block leaves as it was, and what it turns. A region that draws its order, whose operations read and whose callees make memory of their own and turn none that was there: one walk serves every order. Contracts of the small functions of package score. Contracts of less, and of a sheet's panel, height, slot, flap. Contracts of a sheet's flap, and of lay. Contracts of a sheet's flat. Contract of a sheet's inside. Contract of score's Check, of a valid blank. Contracts of a sheet's flat and inside, for all checks, and of Inner, of a valid blank. Flat of all ten checks, of a sheet whose measures lie within limits (they may be 0). Contract of a wish's in. (Made by gen_s10.py.) Contracts of meet and outside. A region that draws its order: reads and calls come first in whatever order, while S holds; then stores one after the other, which may write what was read. One order of the reads and calls serves every one. A region that draws its order, in which loads, calls and allocations come up in many orders, and stores at the end in one: an invariant over the set of what has come up. One proof for each operation, not for each order. Contracts of valid, goodPaper, goodFlute, goodWish. Contracts of every over papers and flutes, and of Check. Contracts of kindAt, formed, numbered, Made. Contract of Made. Contracts of a sheet's flute and take. A map from int to int that a call makes: what it holds, number by number. Plain arithmetic of a board: parts, take-up, what is used of each paper, and the bounds. What a store leaves of a map; the contract of take. Rows that a call makes by append. Contracts of the law's small functions: pubIn, pubHas, pubByte, pubInts, pubSingle, pubDouble. The law of a region of calls and allocations, told with pairs; facts; rows apart from new variables. A region of calls, loads and allocations that draws its order: each operation hands over a value of which something is said that stays. One short proof for each operation. -/
import Derived.WalkKit
import Derived.Handy
import Derived.Test.YtoihnilgmdcndaaProg
import Derived.Outline
import Derived.Lib.Hide
import Derived.BigQuiet
import Derived.WalkLawsBesides
import Derived.StillTailTactics
import Derived.Deep.RegionHeld3
import Derived.Lib.MinMax
import Derived.StillTail
import Derived.OrdersHeld
import Derived.RegionTactic
import Derived.Deep.QuietTactic
import Derived.WalkSmall
import Derived.Maps.OwnOps
import Derived.Maps.Views
import Derived.RangeFuncBox
namespace Go.Proofs.Ytoihnilgmdcndaa
set_option linter.unusedVariables false
set_option linter.unusedSimpArgs false
open Go.RowKit

/-- Whatever lay in w lies in w' as it lay. -/
abbrev Gr (w w' : World) : Prop := Below w.heap.size w w'

theorem Gr.tr {a b c : World} (h : Gr a b) (k : Gr b c) : Gr a c := Below.trans h (Below.mono k h.size)

theorem Gr.al (w : World) (o : Obj) : Gr w (w.alloc o) := (Below.refl _ w).alloc (Nat.le_refl _) o

theorem Gr.cell {w w' : World} (h : Gr w w') {b o : Nat} {v : Value} (hb : b < w.heap.size) (hc : w.cell? ⟨b, o, none⟩ = some v) : w'.cell? ⟨b, o, none⟩ = some v :=
  (Below.cell h (p := ⟨b, o, none⟩) hb).trans hc

theorem lt_of_cell {w : World} {b o : Nat} {v : Value} (hc : w.cell? ⟨b, o, none⟩ = some v) : b < w.heap.size := World.block_lt_of_cell? w ⟨b, o, none⟩ hc

theorem Gr.keep {w w' : World} (h : Gr w w') {b o : Nat} {v : Value} (hc : w.cell? ⟨b, o, none⟩ = some v) : w'.cell? ⟨b, o, none⟩ = some v :=
  h.cell (lt_of_cell hc) hc

/-- A row of elements of sz cells each, at a. -/
def RowOf {α : Type} (sz : Nat) (enc : α → List Value) (w : World) (a : Option Addr) (l : List α) : Prop :=
  l.length ≤ 9223372036854775807 ∧ ∀ j x, l[j]? = some x → ∃ b off, a = some ⟨b, off, none⟩ ∧ b < w.heap.size ∧ ∀ i v, (enc x)[i]? = some v → w.cell? ⟨b, off + j * sz + i, none⟩ = some v

theorem RowOf.grow {α : Type} {sz : Nat} {enc : α → List Value} {w w' : World} {a : Option Addr} {l : List α} (h : RowOf sz enc w a l) (g : Gr w w') : RowOf sz enc w' a l := by
  refine ⟨h.1, fun j x hx => ?_⟩
  obtain ⟨b, off, ha, hb, hc⟩ := h.2 j x hx
  exact ⟨b, off, ha, Nat.lt_of_lt_of_le hb g.size, fun i v hv => g.cell hb (hc i v hv)⟩

theorem RowOf.nil {α : Type} {sz : Nat} {enc : α → List Value} {w : World} {a : Option Addr} : RowOf sz enc w a ([] : List α) :=
  ⟨by simp, fun j x hx => by simp at hx⟩

structure Paper where
  kind : Int
  weight : Int
  tlo : Int
  thi : Int
  mlo : Int
  mhi : Int
  price : Int
  strong : Int

structure Flute where
  pitch : Int
  draw : Int
  hlo : Int
  hhi : Int

def encI (n : Int) : List Value := [.int .i64 n]

def encP (p : Paper) : List Value := [.int .i64 p.kind, .int .i64 p.weight, .int .i64 p.tlo, .int .i64 p.thi, .int .i64 p.mlo, .int .i64 p.mhi, .int .i64 p.price, .int .i64 p.strong]

def encF (f : Flute) : List Value := [.int .i64 f.pitch, .int .i64 f.draw, .int .i64 f.hlo, .int .i64 f.hhi]

abbrev IRow := RowOf 1 encI

abbrev PRow := RowOf 8 encP

abbrev FRow := RowOf 4 encF

theorem IRow.get {w : World} {a : Option Addr} {l : List Int} (h : IRow w a l) {j : Nat} {x : Int} (hx : l[j]? = some x) :
    ∃ b off, a = some ⟨b, off, none⟩ ∧ b < w.heap.size ∧ w.cell? ⟨b, off + j, none⟩ = some (.int .i64 x) := by
  obtain ⟨b, off, ha, hb, hc⟩ := h.2 j x hx
  have := hc 0 (.int .i64 x) rfl
  exact ⟨b, off, ha, hb, by simpa using this⟩

theorem PRow.get {w : World} {a : Option Addr} {l : List Paper} (h : PRow w a l) {j : Nat} {x : Paper} (hx : l[j]? = some x) :
    ∃ b off, a = some ⟨b, off, none⟩ ∧ b < w.heap.size ∧ w.cell? ⟨b, off + j * 8, none⟩ = some (.int .i64 x.kind) ∧ w.cell? ⟨b, off + j * 8 + 1, none⟩ = some (.int .i64 x.weight) ∧
      w.cell? ⟨b, off + j * 8 + 2, none⟩ = some (.int .i64 x.tlo) ∧ w.cell? ⟨b, off + j * 8 + 3, none⟩ = some (.int .i64 x.thi) ∧ w.cell? ⟨b, off + j * 8 + 4, none⟩ = some (.int .i64 x.mlo) ∧
      w.cell? ⟨b, off + j * 8 + 5, none⟩ = some (.int .i64 x.mhi) ∧ w.cell? ⟨b, off + j * 8 + 6, none⟩ = some (.int .i64 x.price) ∧ w.cell? ⟨b, off + j * 8 + 7, none⟩ = some (.int .i64 x.strong) := by
  obtain ⟨b, off, ha, hb, hc⟩ := h.2 j x hx
  exact ⟨b, off, ha, hb, hc 0 _ rfl, hc 1 _ rfl, hc 2 _ rfl, hc 3 _ rfl, hc 4 _ rfl, hc 5 _ rfl, hc 6 _ rfl, hc 7 _ rfl⟩

theorem FRow.get {w : World} {a : Option Addr} {l : List Flute} (h : FRow w a l) {j : Nat} {x : Flute} (hx : l[j]? = some x) :
    ∃ b off, a = some ⟨b, off, none⟩ ∧ b < w.heap.size ∧ w.cell? ⟨b, off + j * 4, none⟩ = some (.int .i64 x.pitch) ∧ w.cell? ⟨b, off + j * 4 + 1, none⟩ = some (.int .i64 x.draw) ∧
      w.cell? ⟨b, off + j * 4 + 2, none⟩ = some (.int .i64 x.hlo) ∧ w.cell? ⟨b, off + j * 4 + 3, none⟩ = some (.int .i64 x.hhi) := by
  obtain ⟨b, off, ha, hb, hc⟩ := h.2 j x hx
  exact ⟨b, off, ha, hb, hc 0 _ rfl, hc 1 _ rfl, hc 2 _ rfl, hc 3 _ rfl⟩

/-- The numbers of a block just made are a row. -/
theorem IRow.new (w : World) (t : TypeId) (l : List Int) (hl : l.length ≤ 9223372036854775807) : IRow (w.alloc (.cells (l.map fun n => Value.int .i64 n).toArray t)) (some ⟨w.heap.size, 0, none⟩) l := by
  refine ⟨hl, fun j x hx => ⟨w.heap.size, 0, rfl, by simp, fun i v hv => ?_⟩⟩
  cases i with
  | succ i => simp [encI] at hv
  | zero =>
    simp only [encI, List.getElem?_cons_zero, Option.some.injEq] at hv
    subst hv
    simp only [World.cell?, World.alloc]
    simp [hx]

theorem IRow.new' (w : World) (t : TypeId) (l : List Int) (hl : l.length ≤ 9223372036854775807) (n : Nat) (hn : n = w.heap.size) (cs : Array Value) (hcs : cs = (l.map fun n => Value.int .i64 n).toArray) : IRow (w.alloc (.cells cs t)) (some ⟨n, 0, none⟩) l := by
  subst hn; subst hcs; exact IRow.new w t l hl

theorem new_cell (w : World) (cs : Array Value) (t : TypeId) {i : Nat} {v : Value} (h : cs[i]? = some v) : (w.alloc (.cells cs t)).cell? ⟨w.heap.size, i, none⟩ = some v := by
  simp only [World.cell?, World.alloc]
  simp [h]

/-- Block b holds these cells at its head. -/
def Box (w : World) (b : Nat) (vs : List Value) : Prop := b < w.heap.size ∧ ∀ i v, vs[i]? = some v → w.cell? ⟨b, i, none⟩ = some v

theorem Box.new (w : World) (vs : List Value) (t : TypeId) (n : Nat) (hn : n = w.heap.size) : Box (w.alloc (.cells vs.toArray t)) n vs := by
  subst hn
  exact ⟨by simp, fun i v h => new_cell w _ t (by simpa using h)⟩

theorem Box.keep {w w' : World} {b : Nat} {vs : List Value} (h : Box w b vs) (g : Gr w w') : Box w' b vs := ⟨Nat.lt_of_lt_of_le h.1 g.size, fun i v hv => g.cell h.1 (h.2 i v hv)⟩

theorem Box.c1 {w : World} {b : Nat} {x0 : Value} (h : Box w b [x0]) : w.cell? ⟨b, 0, none⟩ = some x0 := h.2 0 x0 rfl

theorem Box.c2 {w : World} {b : Nat} {x0 x1 : Value} (h : Box w b [x0, x1]) : w.cell? ⟨b, 0, none⟩ = some x0 ∧ w.cell? ⟨b, 1, none⟩ = some x1 := ⟨h.2 0 x0 rfl, h.2 1 x1 rfl⟩

theorem Box.c4 {w : World} {b : Nat} {x0 x1 x2 x3 : Value} (h : Box w b [x0, x1, x2, x3]) : w.cell? ⟨b, 0, none⟩ = some x0 ∧ w.cell? ⟨b, 1, none⟩ = some x1 ∧ w.cell? ⟨b, 2, none⟩ = some x2 ∧ w.cell? ⟨b, 3, none⟩ = some x3 :=
  ⟨h.2 0 x0 rfl, h.2 1 x1 rfl, h.2 2 x2 rfl, h.2 3 x3 rfl⟩

theorem Box.c6 {w : World} {b : Nat} {x0 x1 x2 x3 x4 x5 : Value} (h : Box w b [x0, x1, x2, x3, x4, x5]) : w.cell? ⟨b, 0, none⟩ = some x0 ∧ w.cell? ⟨b, 1, none⟩ = some x1 ∧ w.cell? ⟨b, 2, none⟩ = some x2 ∧ w.cell? ⟨b, 3, none⟩ = some x3 ∧
    w.cell? ⟨b, 4, none⟩ = some x4 ∧ w.cell? ⟨b, 5, none⟩ = some x5 :=
  ⟨h.2 0 x0 rfl, h.2 1 x1 rfl, h.2 2 x2 rfl, h.2 3 x3 rfl, h.2 4 x4 rfl, h.2 5 x5 rfl⟩

theorem Box.c8 {w : World} {b : Nat} {x0 x1 x2 x3 x4 x5 x6 x7 : Value} (h : Box w b [x0, x1, x2, x3, x4, x5, x6, x7]) : w.cell? ⟨b, 0, none⟩ = some x0 ∧ w.cell? ⟨b, 1, none⟩ = some x1 ∧ w.cell? ⟨b, 2, none⟩ = some x2 ∧ w.cell? ⟨b, 3, none⟩ = some x3 ∧
    w.cell? ⟨b, 4, none⟩ = some x4 ∧ w.cell? ⟨b, 5, none⟩ = some x5 ∧ w.cell? ⟨b, 6, none⟩ = some x6 ∧ w.cell? ⟨b, 7, none⟩ = some x7 :=
  ⟨h.2 0 x0 rfl, h.2 1 x1 rfl, h.2 2 x2 rfl, h.2 3 x3 rfl, h.2 4 x4 rfl, h.2 5 x5 rfl, h.2 6 x6 rfl, h.2 7 x7 rfl⟩

/-- A step on: what is known of the world at hand, said of a world that is a letter. -/
theorem wp_abs {P : Program} {c : Code} {Q : Exit → Act → World → Prop} {a : Act} {w : World} (F : World → Prop) (h : F w) (k : ∀ W, F W → Code.wp P c Q a W) : Code.wp P c Q a w := k w h

/-- Block b holds these cells and no others are frozen in it. -/
def Own (w : World) (b : Nat) (vs : List Value) : Prop := Box w b vs ∧ ∀ i, w.frozen? ⟨b, i, none⟩ = false

theorem Own.new (w : World) (vs : List Value) (t : TypeId) (n : Nat) (hn : n = w.heap.size) : Own (w.alloc (.cells vs.toArray t)) n vs := by
  refine ⟨Box.new w vs t n hn, fun i => ?_⟩
  subst hn
  simp

theorem Own.keep {w w' : World} {b : Nat} {vs : List Value} (h : Own w b vs) (g : Gr w w') : Own w' b vs :=
  ⟨h.1.keep g, fun i => (Below.frozen g (p := ⟨b, i, none⟩) h.1.1).trans (h.2 i)⟩

theorem ret_bool {a b : Bool} (h : a = b) : Ending.returned (.bool a) = .returned (.bool b) := by rw [h]

theorem ret_int {k : IntKind} {a b : Int} (h : a = b) : Ending.returned (.int k a) = .returned (.int k b) := by rw [h]

theorem get_of_lt {α : Type} {l : List α} {k : Nat} (h : k < l.length) : ∃ x, l[k]? = some x := ⟨_, List.getElem?_eq_getElem h⟩

theorem all_take_succ {α : Type} (p : α → Bool) {l : List α} {k : Nat} {x : α} (hx : l[k]? = some x) (h : (l.take k).all p = true) (hp : p x = true) : (l.take (k + 1)).all p = true := by
  rw [List.take_add_one, hx]
  simp [List.all_append, h, hp]

theorem not_all_of {α : Type} (p : α → Bool) {l : List α} {k : Nat} {x : α} (hx : l[k]? = some x) (hp : p x = false) : l.all p = false := by
  rw [List.all_eq_false]
  exact ⟨x, List.mem_of_getElem? hx, by simp [hp]⟩

end Go.Proofs.Ytoihnilgmdcndaa

namespace Go.Proofs.Ytoihnilgmdcndaa
set_option linter.unusedVariables false
set_option linter.unusedSimpArgs false
open Go.RowKit

def in1 (lo hi n : Int) : Bool := decide (lo ≤ n) && decide (n ≤ hi)

def inB (lo hi : Int) (l : List Int) : Bool := l.all (in1 lo hi)

set_option maxHeartbeats 400000 in
theorem within_same (lo hi : Int) (l : List Int) (d : Bool) (hd : inB lo hi l = d) (a : Option Addr) (cap : Nat) (w : World) (hr : IRow w a l) :
    Calls Try.prog 63 #[.int .i64 lo, .int .i64 hi, .slice a l.length cap] w fun e w' => e = .returned (.bool d) ∧ w = w' := by
  have hm := hr.1
  have Hd := Lib.hid hd
  clear hd
  go_enter Try.func63, Try.ntmps63
  go_wp2
  go_loop [11] (fun i => ∃ k : Nat, k ≤ l.length ∧ i = .int .i64 k ∧ (l.take k).all (in1 lo hi) = true) (fun i => l.length - (intOf i).toNat)
  case atStart => exact ⟨0, Nat.zero_le _, rfl, rfl⟩
  case round =>
    obtain ⟨k, hk, rfl, hall⟩ := hrel
    have Hall := Lib.hid hall
    clear hall
    by_cases hlt : k < l.length
    · obtain ⟨x, hx⟩ := get_of_lt hlt
      obtain ⟨b0, off, rfl, hb, hc⟩ := hr.get hx
      have Hx := Lib.hid hx
      clear hx
      by_cases h1 : x < lo
      · have hf : d = false := by rw [← Hd.out]; exact not_all_of _ Hx.out (by simp [in1]; omega)
        have Hf := Lib.hid hf
        clear hf
        go_wp2
        go_ret
        exact ⟨ret_bool Hf.out.symm, rfl⟩
      · have h1' : decide (x < lo) = false := by simpa using h1
        by_cases h2 : hi < x
        · have hf : d = false := by rw [← Hd.out]; exact not_all_of _ Hx.out (by simp [in1]; omega)
          have Hf := Lib.hid hf
          clear hf
          go_wp2
          go_ret
          exact ⟨ret_bool Hf.out.symm, rfl⟩
        · have h2' : decide (hi < x) = false := by simpa using h2
          have hp : in1 lo hi x = true := by simp [in1]; omega
          have Hp := Lib.hid hp
          clear hp
          go_wp2
          go_round
          case rel => exact ⟨k + 1, by omega, by go_num, all_take_succ _ Hx.out Hall.out Hp.out⟩
          case measure => simp [intOf]; omega
    · have hf : d = true := by
        have h := Hall.out
        rw [List.take_of_length_le (by omega)] at h
        rw [← Hd.out]; exact h
      have Hf := Lib.hid hf
      clear hf
      go_wp2
      go_ret
      exact ⟨ret_bool Hf.out.symm, rfl⟩

theorem within_any (lo hi : Int) (l : List Int) (d : Bool) (hd : inB lo hi l = d) (a : Option Addr) (cap : Nat) (w : World) (hr : IRow w a l) :
    Calls Try.prog 63 #[.int .i64 lo, .int .i64 hi, .slice a l.length cap] w fun e w' => e = .returned (.bool d) ∧ Gr w w' :=
  (within_same lo hi l d hd a cap w hr).mono fun _ _ ⟨he, hw⟩ => ⟨he, hw ▸ Below.refl _ _⟩

/-- Spans: the least number, the greatest. -/
structure Sp where
  lo : Int
  hi : Int

def encS (s : Sp) : List Value := [.int .i64 s.lo, .int .i64 s.hi]

abbrev SRow := RowOf 2 encS

theorem SRow.get {w : World} {a : Option Addr} {l : List Sp} (h : SRow w a l) {j : Nat} {x : Sp} (hx : l[j]? = some x) :
    ∃ b off, a = some ⟨b, off, none⟩ ∧ b < w.heap.size ∧ w.cell? ⟨b, off + j * 2, none⟩ = some (.int .i64 x.lo) ∧ w.cell? ⟨b, off + j * 2 + 1, none⟩ = some (.int .i64 x.hi) := by
  obtain ⟨b, off, ha, hb, hc⟩ := h.2 j x hx
  exact ⟨b, off, ha, hb, hc 0 _ rfl, hc 1 _ rfl⟩

theorem SRow.new1 (w : World) (t : TypeId) (a b : Int) (n : Nat) (hn : n = w.heap.size) : SRow (w.alloc (.cells #[.int .i64 a, .int .i64 b] t)) (some ⟨n, 0, none⟩) [⟨a, b⟩] := by
  subst hn
  refine ⟨by simp, fun j x hx => ⟨w.heap.size, 0, rfl, by simp, fun i v hv => ?_⟩⟩
  match j, i with
  | 0, 0 => simp at hx; subst hx; simp [encS] at hv; subst hv; exact new_cell w _ t (by rfl)
  | 0, 1 => simp at hx; subst hx; simp [encS] at hv; subst hv; exact new_cell w _ t (by rfl)
  | 0, (n+2) => simp at hx; subst hx; simp [encS] at hv
  | (n+1), _ => simp at hx

theorem SRow.new2 (w : World) (t : TypeId) (a b c d : Int) (n : Nat) (hn : n = w.heap.size) : SRow (w.alloc (.cells #[.int .i64 a, .int .i64 b, .int .i64 c, .int .i64 d] t)) (some ⟨n, 0, none⟩) [⟨a, b⟩, ⟨c, d⟩] := by
  subst hn
  refine ⟨by simp, fun j x hx => ⟨w.heap.size, 0, rfl, by simp, fun i v hv => ?_⟩⟩
  match j, i with
  | 0, 0 => simp at hx; subst hx; simp [encS] at hv; subst hv; exact new_cell w _ t (by rfl)
  | 0, 1 => simp at hx; subst hx; simp [encS] at hv; subst hv; exact new_cell w _ t (by rfl)
  | 0, (n+2) => simp at hx; subst hx; simp [encS] at hv
  | 1, 0 => simp at hx; subst hx; simp [encS] at hv; subst hv; exact new_cell w _ t (by rfl)
  | 1, 1 => simp at hx; subst hx; simp [encS] at hv; subst hv; exact new_cell w _ t (by rfl)
  | 1, (n+2) => simp at hx; subst hx; simp [encS] at hv
  | (n+2), _ => simp at hx

def okSpan (lo hi a b : Int) : Bool := inB lo hi [a, b] && decide (a ≤ b)

def okSp (lo hi : Int) (s : Sp) : Bool := okSpan lo hi s.lo s.hi

set_option maxHeartbeats 1000000 in
theorem valids_any (lo hi : Int) (l : List Sp) (d : Bool) (hd : l.all (okSp lo hi) = d) (a : Option Addr) (cap : Nat) (w : World) (hr : SRow w a l) :
    Calls Try.prog 95 #[.int .i64 lo, .int .i64 hi, .slice a l.length cap] w fun e w' => e = .returned (.bool d) ∧ Gr w w' := by
  have hm := hr.1
  have Hd := Lib.hid hd
  clear hd
  go_enter Try.func95, Try.ntmps95
  go_wp2
  go_loopw [11] (fun i wr => ∃ k : Nat, k ≤ l.length ∧ i = .int .i64 k ∧ (l.take k).all (okSp lo hi) = true ∧ Gr w wr) (fun i wr => l.length - (intOf i).toNat)
  case atStart => exact ⟨0, Nat.zero_le _, rfl, rfl, Below.refl _ _⟩
  case round =>
    obtain ⟨k, hk, rfl, hall, hG⟩ := hrel
    have Hall := Lib.hid hall
    clear hall
    by_cases hlt : k < l.length
    · obtain ⟨x, hx⟩ := get_of_lt hlt
      obtain ⟨b0, off, rfl, hb, hc0, hc1⟩ := SRow.get (hr.grow hG) hx
      have Hx := Lib.hid hx
      clear hx
      obtain ⟨xl, xh⟩ := x
      simp only at hc0 hc1
      have hr1 := IRow.new' (wr.alloc (.cells #[.int .i64 xl, .int .i64 xh] 37)) 3 [xl, xh] (by simp) (wr.heap.size + 1) (by simp) #[.int .i64 xl, .int .i64 xh] (by simp)
      have hb := (Box.new wr [.int .i64 xl, .int .i64 xh] 37 wr.heap.size rfl).keep (Gr.al _ (.cells #[.int .i64 xl, .int .i64 xh] 3))
      have g2 : Gr wr ((wr.alloc (.cells #[.int .i64 xl, .int .i64 xh] 37)).alloc (.cells #[.int .i64 xl, .int .i64 xh] 3)) := Gr.tr (Gr.al _ _) (Gr.al _ _)
      cases c : inB lo hi [xl, xh] with
      | false =>
        have hf : d = false := by rw [← Hd.out]; exact not_all_of _ Hx.out (by simp [okSp, okSpan, c])
        have Hf := Lib.hid hf
        have C := Lib.hid c
        clear hf c
        go_wp2_with (go_at_call 63; refine (within_any _ _ [xl, xh] _ C.out _ _ _ hr1).mono ?_; rintro e w1 ⟨rfl, hg⟩)
        go_ret
        exact ⟨ret_bool Hf.out.symm, hG.tr (g2.tr hg)⟩
      | true =>
        have C := Lib.hid c
        by_cases h2 : xh < xl
        · have hf : d = false := by rw [← Hd.out]; exact not_all_of _ Hx.out (by simp [okSp, okSpan, c]; omega)
          have Hf := Lib.hid hf
          clear hf c
          go_wp2_with (go_at_call 63; refine (within_any _ _ [xl, xh] _ C.out _ _ _ hr1).mono ?_; rintro e w1 ⟨rfl, hg⟩; obtain ⟨q0, q1⟩ := (hb.keep hg).c2)
          go_ret
          exact ⟨ret_bool Hf.out.symm, hG.tr (g2.tr hg)⟩
        · have h2' : decide (xh < xl) = false := by simpa using h2
          have hp : okSp lo hi ⟨xl, xh⟩ = true := by simp [okSp, okSpan, c]; omega
          have Hp := Lib.hid hp
          clear hp c
          go_wp2_with (go_at_call 63; refine (within_any _ _ [xl, xh] _ C.out _ _ _ hr1).mono ?_; rintro e w1 ⟨rfl, hg⟩; obtain ⟨q0, q1⟩ := (hb.keep hg).c2)
          go_roundw
          case rel => exact ⟨k + 1, by omega, by go_num, all_take_succ _ Hx.out Hall.out Hp.out, hG.tr (g2.tr hg)⟩
          case measure => simp [intOf]; omega
    · have hf : d = true := by
        have h := Hall.out
        rw [List.take_of_length_le (by omega)] at h
        rw [← Hd.out]; exact h
      have Hf := Lib.hid hf
      clear hf
      go_wp2
      go_ret
      exact ⟨ret_bool Hf.out.symm, hG⟩

end Go.Proofs.Ytoihnilgmdcndaa

namespace Go.Proofs.Ytoihnilgmdcndaa
set_option linter.unusedVariables false
set_option linter.unusedSimpArgs false
open Go.RowKit

theorem Gr.dr (w : World) : Gr w w.drew := (Below.refl _ w).drew

theorem cell_set {w : World} {b i : Nat} {u : Value} (v : Value) (h : w.cell? ⟨b, i, none⟩ = some u) : (w.setCell ⟨b, i, none⟩ v).cell? ⟨b, i, none⟩ = some v :=
  World.cell?_setCell_same' _ _ _ (by rw [h]; rfl)

theorem cell_set_ne {w : World} {b c i j : Nat} (v : Value) (h : c ≠ b ∨ j ≠ i) : (w.setCell ⟨b, i, none⟩ v).cell? ⟨c, j, none⟩ = w.cell? ⟨c, j, none⟩ :=
  World.cell?_setCell_other _ _ _ _ (by rintro e; injection e with e1 e2; rcases h with h | h <;> exact h (by first | exact e1 | exact e1.symm | exact e2 | exact e2.symm))

theorem Own.other {w : World} {b c i : Nat} {vs : List Value} {v : Value} (h : Own w c vs) (hne : c ≠ b) : Own (w.setCell ⟨b, i, none⟩ v) c vs :=
  ⟨⟨by simpa using h.1.1, fun j u hu => by rw [cell_set_ne v (.inl hne)]; exact h.1.2 j u hu⟩, fun j => by rw [World.frozen?_setCell]; exact h.2 j⟩

theorem Own.set {w : World} {b i : Nat} {vs : List Value} {v : Value} (h : Own w b vs) (hi : i < vs.length) : Own (w.setCell ⟨b, i, none⟩ v) b (vs.set i v) := by
  refine ⟨⟨by simpa using h.1.1, fun j u hu => ?_⟩, fun j => by rw [World.frozen?_setCell]; exact h.2 j⟩
  by_cases hj : j = i
  · subst hj
    rw [List.getElem?_set_self hi] at hu
    cases hu
    obtain ⟨x, hx⟩ := get_of_lt hi
    exact cell_set v (h.1.2 j x hx)
  · rw [cell_set_ne v (.inr hj)]
    rw [List.getElem?_set_ne (by omega)] at hu
    exact h.1.2 j u hu

/-- A map's store turns no other block. -/
theorem Own.grown {w w' : World} {b m : Nat} {vs : List Value} (h : Own w b vs) (g : w.grownBy w' (some m)) (hne : b ≠ m) : Own w' b vs := by
  have hb := g.block b h.1.1 (fun e => hne (by injection e))
  exact ⟨⟨Nat.lt_of_lt_of_le h.1.1 g.size, fun i v hv => (World.cell?_of_block (w := w) (a := ⟨b, i, none⟩) hb).trans (h.1.2 i v hv)⟩, fun i => (World.frozen?_of_block (w := w) (a := ⟨b, i, none⟩) hb).trans (h.2 i)⟩

end Go.Proofs.Ytoihnilgmdcndaa

namespace Go.Proofs.Ytoihnilgmdcndaa
set_option linter.unusedVariables false
set_option linter.unusedSimpArgs false
open Go.RowKit

/-- The worlds that keep all that lies in W. -/
structure From (W : World) where
  val : World
  property : Gr W val

instance From.nonempty (W : World) : Nonempty (From W) := ⟨⟨W, Below.refl _ _⟩⟩

/-- A callee's contract, met in whatever such world. -/
theorem Calls.gr {P : Program} {f : FuncId} {args : Array Value} {W : World} {u : From W} {v : Value} (h : Calls P f args u.val fun e w' => e = .returned v ∧ Gr u.val w') :
    Calls P f args u.val fun e w'' => e = .returned v ∧ ∃ u' : From W, w'' = u'.val :=
  h.mono fun _ w' ⟨he, hg⟩ => ⟨he, ⟨w', u.property.tr hg⟩, rfl⟩

theorem From.keep {W : World} {b o : Nat} {v : Value} (h : W.cell? ⟨b, o, none⟩ = some v) (u : From W) : u.val.cell? ⟨b, o, none⟩ = some v := u.property.keep h

end Go.Proofs.Ytoihnilgmdcndaa

namespace Go.Proofs.Ytoihnilgmdcndaa
set_option linter.unusedVariables false
set_option linter.unusedSimpArgs false
open Go.RowKit

theorem Box.c10 {w : World} {b : Nat} {x0 x1 x2 x3 x4 x5 x6 x7 x8 x9 : Value} (h : Box w b [x0, x1, x2, x3, x4, x5, x6, x7, x8, x9]) : w.cell? ⟨b, 0, none⟩ = some x0 ∧ w.cell? ⟨b, 1, none⟩ = some x1 ∧ w.cell? ⟨b, 2, none⟩ = some x2 ∧ w.cell? ⟨b, 3, none⟩ = some x3 ∧ w.cell? ⟨b, 4, none⟩ = some x4 ∧ w.cell? ⟨b, 5, none⟩ = some x5 ∧ w.cell? ⟨b, 6, none⟩ = some x6 ∧ w.cell? ⟨b, 7, none⟩ = some x7 ∧ w.cell? ⟨b, 8, none⟩ = some x8 ∧ w.cell? ⟨b, 9, none⟩ = some x9 :=
  ⟨h.2 0 x0 rfl, h.2 1 x1 rfl, h.2 2 x2 rfl, h.2 3 x3 rfl, h.2 4 x4 rfl, h.2 5 x5 rfl, h.2 6 x6 rfl, h.2 7 x7 rfl, h.2 8 x8 rfl, h.2 9 x9 rfl⟩

theorem Box.c7 {w : World} {b : Nat} {x0 x1 x2 x3 x4 x5 x6 : Value} (h : Box w b [x0, x1, x2, x3, x4, x5, x6]) : w.cell? ⟨b, 0, none⟩ = some x0 ∧ w.cell? ⟨b, 1, none⟩ = some x1 ∧ w.cell? ⟨b, 2, none⟩ = some x2 ∧ w.cell? ⟨b, 3, none⟩ = some x3 ∧ w.cell? ⟨b, 4, none⟩ = some x4 ∧ w.cell? ⟨b, 5, none⟩ = some x5 ∧ w.cell? ⟨b, 6, none⟩ = some x6 :=
  ⟨h.2 0 x0 rfl, h.2 1 x1 rfl, h.2 2 x2 rfl, h.2 3 x3 rfl, h.2 4 x4 rfl, h.2 5 x5 rfl, h.2 6 x6 rfl⟩


theorem times_any (m a b : Int) (ha0 : -1000000000 ≤ m * a) (ha1 : m * a ≤ 1000000000) (hb0 : -1000000000 ≤ m * b) (hb1 : m * b ≤ 1000000000) (w : World) :
    Calls Try.prog 96 #[.int .i64 m, .agg #[.int .i64 a, .int .i64 b]] w fun e w' => e = .returned (.agg #[.int .i64 (m * a), .int .i64 (m * b)]) ∧ Gr w w' := by
  go_enter Try.func96, Try.ntmps96
  go_wp2
  refine bodyPost_ret (v := .agg #[.int .i64 (m * a), .int .i64 (m * b)]) (by simp [results, Try.results96, go_sem]) rfl ⟨rfl, (Gr.al _ _).tr (Gr.al _ _)⟩

theorem gap_any (n : Int) (h0 : 5 ≤ n) (h1 : n ≤ 8) (w : World) :
    Calls Try.prog 104 #[.int .i64 n] w fun e w' => e = .returned (.tuple #[.int .i64 ((n - 5) / 2), .int .i64 ((n - 5) % 2)]) ∧ w = w' := by
  go_enter Try.func104, Try.ntmps104
  go_wp2
  go_ret2
  exact ⟨rfl, rfl⟩

theorem over_any (n : Int) (h0 : 0 ≤ n) (h1 : n ≤ 1) (w : World) :
    Calls Try.prog 105 #[.int .i64 n] w fun e w' => e = .returned (.int .i64 (1 - n)) ∧ w = w' := by
  go_enter Try.func105, Try.ntmps105
  go_wp2
  go_ret
  exact ⟨rfl, rfl⟩

/-- What a measure can truly be. -/
def nearL (off m lo hi : Int) : Sp := ⟨max lo (m - off), min hi (m + off)⟩

set_option maxRecDepth 100000 in
theorem near_any (tab hei slo off : Int) (pan top bot : List Int) (pa ta ba : Option Addr) (pc tc bc : Nat) (opn : Bool) (m lo hi : Int) (h0 : 0 ≤ m) (h1 : m ≤ 3000) (h2 : 0 ≤ off) (h3 : off ≤ 3000) (h4 : 0 ≤ lo) (h5 : hi ≤ 3000) (w : World) :
    Calls Try.prog 129 #[.agg #[.int .i64 tab, .slice pa pan.length pc, .int .i64 hei, .slice ta top.length tc, .slice ba bot.length bc, .int .i64 slo, .bool opn, .int .i64 off, .slice ta top.length tc, .slice ba bot.length bc], .int .i64 m, .int .i64 lo, .int .i64 hi] w fun e w' => e = .returned (.agg #[.int .i64 (nearL off m lo hi).lo, .int .i64 (nearL off m lo hi).hi]) ∧ Gr w w' := by
  go_enter Try.func129, Try.ntmps129
  go_wp2
  all_goals
    refine bodyPost_ret (v := .agg #[.int .i64 (nearL off m lo hi).lo, .int .i64 (nearL off m lo hi).hi]) (by simp [results, Try.results129, go_sem, nearL]; try omega) rfl ⟨rfl, (Gr.al _ _).tr (Gr.al _ _)⟩

/-- How many calipers a measure loses. -/
def lostL (k : Int) (opn : Bool) : Int := if k = 4 ∧ opn = false then 2 else 1

set_option maxRecDepth 100000 in
theorem lost_any (tab hei slo off : Int) (pan top bot : List Int) (pa ta ba : Option Addr) (pc tc bc : Nat) (opn : Bool) (k : Int) (w : World) :
    Calls Try.prog 97 #[.agg #[.int .i64 tab, .slice pa pan.length pc, .int .i64 hei, .slice ta top.length tc, .slice ba bot.length bc, .int .i64 slo, .bool opn, .int .i64 off, .slice ta top.length tc, .slice ba bot.length bc], .int .i64 k] w fun e w' => e = .returned (.int .i64 (lostL k opn)) ∧ Gr w w' := by
  cases h : (k == 4) with
  | false =>
    have h' : ¬ k = 4 := by simpa using h
    have E := Lib.hid (show lostL k opn = 1 by unfold lostL; rw [if_neg (fun x => h' x.1)])
    clear h'
    go_enter Try.func97, Try.ntmps97
    go_wp2
    go_ret
    exact ⟨ret_int E.out.symm, Gr.al _ _⟩
  | true =>
    have h' : k = 4 := by simpa using h
    cases opn with
    | false =>
      have E := Lib.hid (show lostL k false = 2 by unfold lostL; rw [if_pos ⟨h', rfl⟩])
      clear h'
      go_enter Try.func97, Try.ntmps97
      go_wp2
      go_ret
      exact ⟨ret_int E.out.symm, Gr.al _ _⟩
    | true =>
      have E := Lib.hid (show lostL k true = 1 by unfold lostL; rw [if_neg (fun x => by cases x.2)])
      clear h'
      go_enter Try.func97, Try.ntmps97
      go_wp2
      go_ret
      exact ⟨ret_int E.out.symm, Gr.al _ _⟩

theorem known_ok (n : Int) (h : inB 0 5 [n] = true) (w : World) :
    Calls Try.prog 67 #[.int .i64 n] w fun e w' => e = .returned (.int .i64 0) ∧ Gr w w' := by
  have hr := IRow.new' w 3 [n] (by simp) w.heap.size rfl #[.int .i64 n] (by simp)
  go_enter Try.func67, Try.ntmps67
  go_wp2_with (go_at_call 63; refine (within_any _ _ [n] _ h _ _ _ hr).mono ?_; rintro e w1 ⟨rfl, hg⟩)
  go_ret
  exact ⟨rfl, (Gr.al _ _).tr hg⟩

theorem measured_ok (l : List Sp) (h : l.all (okSp 1 10000) = true) (a : Option Addr) (cap : Nat) (w : World) (hr : SRow w a l) :
    Calls Try.prog 66 #[.slice a l.length cap] w fun e w' => e = .returned (.int .i64 0) ∧ Gr w w' := by
  go_enter Try.func66, Try.ntmps66
  go_wp2_with (go_at_call 95; refine (valids_any _ _ l _ h _ _ _ hr).mono ?_; rintro e w1 ⟨rfl, hg⟩)
  go_ret
  exact ⟨rfl, hg⟩

set_option maxHeartbeats 400000 in
theorem first_ok (l : List Int) (h : ∀ x ∈ l, x = 0) (a : Option Addr) (cap : Nat) (w : World) (hr : IRow w a l) :
    Calls Try.prog 65 #[.slice a l.length cap] w fun e w' => e = .returned (.int .i64 0) ∧ w = w' := by
  have hm := hr.1
  have H := Lib.hid h
  clear h
  go_enter Try.func65, Try.ntmps65
  go_wp2
  go_loop [7] (fun i => ∃ k : Nat, k ≤ l.length ∧ i = .int .i64 k) (fun i => l.length - (intOf i).toNat)
  case atStart => exact ⟨0, Nat.zero_le _, rfl⟩
  case round =>
    obtain ⟨k, hk, rfl⟩ := hrel
    by_cases hlt : k < l.length
    · obtain ⟨x, hx⟩ := get_of_lt hlt
      obtain ⟨b0, off, rfl, hb, hc⟩ := hr.get hx
      obtain rfl : x = 0 := H.out x (List.mem_of_getElem? hx)
      clear hx
      go_wp2
      go_round
      case rel => exact ⟨k + 1, by omega, by go_num⟩
      case measure => simp [intOf]; omega
    · go_wp2
      go_ret
      exact ⟨rfl, rfl⟩

end Go.Proofs.Ytoihnilgmdcndaa

namespace Go.Proofs.Ytoihnilgmdcndaa
set_option linter.unusedVariables false
set_option linter.unusedSimpArgs false
open Go.RowKit

def less1 (s x : Sp) : Sp := ⟨s.lo - x.hi, s.hi - x.lo⟩

def lessL (s : Sp) (l : List Sp) : Sp := l.foldl less1 s

def SpB (n : Int) (x : Sp) : Prop := -n ≤ x.lo ∧ x.lo ≤ n ∧ -n ≤ x.hi ∧ x.hi ≤ n

theorem less_take {s : Sp} {l : List Sp} {k : Nat} {x : Sp} (hx : l[k]? = some x) : lessL s (l.take (k + 1)) = less1 (lessL s (l.take k)) x := by
  unfold lessL
  rw [List.take_add_one, hx]
  simp

theorem less_bd {s : Sp} {l : List Sp} (hs : SpB 1000000000 s) (hl : ∀ x ∈ l, SpB 1000000000 x) : ∀ k : Nat, k ≤ l.length → SpB (1000000000 * (k + 1)) (lessL s (l.take k))
  | 0, _ => by simpa [lessL] using hs
  | k + 1, hk => by
    obtain ⟨x, hx⟩ := get_of_lt (show k < l.length by omega)
    obtain ⟨a1, a2, a3, a4⟩ := hl x (List.mem_of_getElem? hx)
    obtain ⟨b1, b2, b3, b4⟩ := less_bd hs hl k (by omega)
    rw [less_take hx]
    unfold SpB less1
    simp only
    refine ⟨by omega, by omega, by omega, by omega⟩

set_option maxHeartbeats 1000000 in
theorem less_any (s : Sp) (l : List Sp) (hn : l.length ≤ 10) (hs : SpB 1000000000 s) (hl : ∀ x ∈ l, SpB 1000000000 x) (a : Option Addr) (cap : Nat) (w : World) (hr : SRow w a l) :
    Calls Try.prog 78 #[.agg #[.int .i64 s.lo, .int .i64 s.hi], .slice a l.length cap] w fun e w' => e = .returned (.agg #[.int .i64 (lessL s l).lo, .int .i64 (lessL s l).hi]) ∧ Gr w w' := by
  have gg := (Gr.al w (.cells #[.int .i64 s.lo, .int .i64 s.hi] 37)).tr (Gr.al _ (.cells #[.int .i64 0, .int .i64 0] 37))
  have o1 := (Own.new w [.int .i64 s.lo, .int .i64 s.hi] 37 w.heap.size rfl).keep (Gr.al _ (.cells #[.int .i64 0, .int .i64 0] 37))
  have o2 := Own.new (w.alloc (.cells #[.int .i64 s.lo, .int .i64 s.hi] 37)) [.int .i64 0, .int .i64 0] 37 (w.heap.size + 1) (by simp)
  have HB := Lib.hid (less_bd hs hl)
  clear hs hl
  go_enter Try.func78, Try.ntmps78
  go_wp2
  refine wp_abs (fun W => Gr w W ∧ Own W w.heap.size [.int .i64 s.lo, .int .i64 s.hi] ∧ Own W (w.heap.size + 1) [.int .i64 0, .int .i64 0]) ⟨gg, o1, o2⟩ ?_
  clear gg o1 o2
  rintro W ⟨gg, o1, o2⟩
  go_loopw [9] (fun i wr => ∃ k : Nat, k ≤ l.length ∧ i = .int .i64 k ∧ Gr w wr ∧ Own wr w.heap.size [.int .i64 (lessL s (l.take k)).lo, .int .i64 (lessL s (l.take k)).hi] ∧ Own wr (w.heap.size + 1) [.int .i64 0, .int .i64 0]) (fun i wr => l.length - (intOf i).toNat)
  case atStart => exact ⟨0, Nat.zero_le _, rfl, gg, o1, o2⟩
  case round =>
    clear gg o1 o2
    obtain ⟨k, hk, rfl, gg, o1, o2⟩ := hrel
    by_cases hlt : k < l.length
    · obtain ⟨x, hx⟩ := get_of_lt hlt
      obtain ⟨b0, off, rfl, hb, hc0, hc1⟩ := SRow.get (hr.grow gg) hx
      obtain ⟨b1, b2, b3, b4⟩ := HB.out k hk
      obtain ⟨c1, c2, c3, c4⟩ := HB.out (k + 1) (by omega)
      have et := less_take (s := s) hx
      rw [et] at c1 c2 c3 c4
      have Et := Lib.hid et
      clear et hx
      generalize lessL s (l.take k) = c at *
      obtain ⟨cl, ch⟩ := c
      obtain ⟨xl, xh⟩ := x
      simp only [less1] at b1 b2 b3 b4 c1 c2 c3 c4 hc0 hc1
      have gn := Gr.al wr (.cells #[.int .i64 xl, .int .i64 xh] 37)
      have p1 := o1.keep gn
      have p2 := o2.keep gn
      have p3 := Own.new wr [.int .i64 xl, .int .i64 xh] 37 wr.heap.size rfl
      have hne : wr.heap.size ≠ w.heap.size := by have := o2.1.1; omega
      obtain ⟨q0, q1⟩ := p1.1.c2
      have z0 := p1.2 0
      have z1 := p1.2 1
      obtain ⟨r0, r1⟩ := p3.1.c2
      have HN := Lib.hid hne
      have g3 := gg.tr gn
      go_wp2
      go_roundw
      case rel =>
        refine ⟨k + 1, by omega, by go_num, (g3.setCell (by simp) _).setCell (by simp) _, ?_, (p2.other (by omega)).other (by omega)⟩
        rw [Et.out]
        exact (p1.set (i := 0) (by simp)).set (i := 1) (by simp)
      case measure => simp [intOf]; omega
    · obtain rfl : k = l.length := by omega
      rw [List.take_length] at o1
      obtain ⟨q0, q1⟩ := o1.1.c2
      obtain ⟨r0, r1⟩ := o2.1.c2
      have z0 := o2.2 0
      have z1 := o2.2 1
      go_wp2
      refine bodyPost_ret (v := .agg #[.int .i64 (lessL s l).lo, .int .i64 (lessL s l).hi]) (by simp [results, Try.results78, go_sem, r0, r1]) rfl ⟨rfl, ?_⟩
      exact (gg.setCell (by simp) _).setCell (by simp) _

set_option maxRecDepth 100000 in
set_option maxHeartbeats 1000000 in
theorem panel_any (tab hei slo off : Int) (pan top bot : List Int) (pa ta ba : Option Addr) (pc tc bc : Nat) (opn : Bool) (i : Nat) (v : Int) (hi : pan[i]? = some v) (h0 : 0 ≤ v) (h1 : v ≤ 3000) (h2 : 0 ≤ off) (h3 : off ≤ 3000) (w : World) (hr : IRow w pa pan) :
    Calls Try.prog 103 #[.agg #[.int .i64 tab, .slice pa pan.length pc, .int .i64 hei, .slice ta top.length tc, .slice ba bot.length bc, .int .i64 slo, .bool opn, .int .i64 off, .slice ta top.length tc, .slice ba bot.length bc], .int .i64 i] w fun e w' => e = .returned (.agg #[.int .i64 (nearL off v 1 3000).lo, .int .i64 (nearL off v 1 3000).hi]) ∧ Gr w w' := by
  have gg := (Gr.al w (.cells #[.int .i64 tab, .slice pa pan.length pc, .int .i64 hei, .slice ta top.length tc, .slice ba bot.length bc, .int .i64 slo, .bool opn, .int .i64 off, .slice ta top.length tc, .slice ba bot.length bc] 124)).tr (Gr.al _ (.cells #[.int .i64 0, .int .i64 0] 37))
  have hb := (Box.new w [.int .i64 tab, .slice pa pan.length pc, .int .i64 hei, .slice ta top.length tc, .slice ba bot.length bc, .int .i64 slo, .bool opn, .int .i64 off, .slice ta top.length tc, .slice ba bot.length bc] 124 w.heap.size rfl).keep (Gr.al _ (.cells #[.int .i64 0, .int .i64 0] 37))
  have ob := Own.new (w.alloc (.cells #[.int .i64 tab, .slice pa pan.length pc, .int .i64 hei, .slice ta top.length tc, .slice ba bot.length bc, .int .i64 slo, .bool opn, .int .i64 off, .slice ta top.length tc, .slice ba bot.length bc] 124)) [.int .i64 0, .int .i64 0] 37 (w.heap.size + 1) (by simp)
  have hl := hr.1
  have hi2 : i < pan.length := (List.getElem?_eq_some_iff.1 hi).1
  have hi3 : (i : Int) < (pan.length : Int) := by omega
  have Hi := Lib.hid hi
  clear hi
  go_enter Try.func103, Try.ntmps103
  go_wp2
  refine wp_abs (fun W => Gr w W ∧ Box W w.heap.size [.int .i64 tab, .slice pa pan.length pc, .int .i64 hei, .slice ta top.length tc, .slice ba bot.length bc, .int .i64 slo, .bool opn, .int .i64 off, .slice ta top.length tc, .slice ba bot.length bc] ∧ Own W (w.heap.size + 1) [.int .i64 0, .int .i64 0]) ⟨gg, hb, ob⟩ ?_
  clear gg hb ob
  rintro W ⟨gg, hb, ob⟩
  have gd := Gr.dr W
  obtain ⟨b0, off0, rfl, hb0, r00⟩ := IRow.get hr Hi.out
  have r0 := (gg.tr gd).keep r00
  have hne : ¬ b0 = w.heap.size + 1 := by omega
  have hne2 : ¬ w.heap.size + 1 = b0 := by omega
  obtain ⟨d0, d1, d2, d3, d4, d5, d6, d7, d8, d9⟩ := (hb.keep gd).c10
  go_region_held3 (fun w' => w'.cell? ⟨b0, off0 + i, none⟩ = some (.int .i64 v) ∧ w'.cell? ⟨w.heap.size, 0, none⟩ = some (.int .i64 tab) ∧ w'.cell? ⟨w.heap.size, 1, none⟩ = some (.slice (some ⟨b0, off0, none⟩) pan.length pc) ∧ w'.cell? ⟨w.heap.size, 2, none⟩ = some (.int .i64 hei) ∧ w'.cell? ⟨w.heap.size, 3, none⟩ = some (.slice ta top.length tc) ∧ w'.cell? ⟨w.heap.size, 4, none⟩ = some (.slice ba bot.length bc) ∧ w'.cell? ⟨w.heap.size, 5, none⟩ = some (.int .i64 slo) ∧ w'.cell? ⟨w.heap.size, 6, none⟩ = some (.bool opn) ∧ w'.cell? ⟨w.heap.size, 7, none⟩ = some (.int .i64 off) ∧ w'.cell? ⟨w.heap.size, 8, none⟩ = some (.slice ta top.length tc) ∧ w'.cell? ⟨w.heap.size, 9, none⟩ = some (.slice ba bot.length bc)) (first | exact ⟨r0, d0, d1, d2, d3, d4, d5, d6, d7, d8, d9⟩ | exact ⟨s0, e0, e1, e2, e3, e4, e5, e6, e7, e8, e9⟩ | go_keep) (first | (go_at_call 129; (refine (near_any _ _ _ _ _ _ _ _ _ _ _ _ _ _ v 1 3000 h0 h1 h2 h3 (by omega) (by omega) _).mono ?_); rintro e w2 ⟨rfl, hx⟩; have s0 := hx.keep r0; (obtain ⟨e0, e1, e2, e3, e4, e5, e6, e7, e8, e9⟩ := (hb.keep (gd.tr hx)).c10); have ob2 := ob.keep (gd.tr hx); (obtain ⟨u0, u1⟩ := ob2.1.c2); have z0 := ob2.2 0; have z1 := ob2.2 1))
  go_wp2
  refine bodyPost_ret (v := .agg #[.int .i64 (nearL off v 1 3000).lo, .int .i64 (nearL off v 1 3000).hi]) (by simp [results, Try.results103, go_sem, u0, u1]) rfl ⟨rfl, ?_⟩
  exact ((gg.tr (gd.tr hx)).setCell (by simp) _).setCell (by simp) _

set_option maxRecDepth 100000 in
set_option maxHeartbeats 1000000 in
theorem height_any (tab hei slo off : Int) (pan top bot : List Int) (pa ta ba : Option Addr) (pc tc bc : Nat) (opn : Bool) (h0 : 0 ≤ hei) (h1 : hei ≤ 3000) (h2 : 0 ≤ off) (h3 : off ≤ 3000) (w : World) :
    Calls Try.prog 100 #[.agg #[.int .i64 tab, .slice pa pan.length pc, .int .i64 hei, .slice ta top.length tc, .slice ba bot.length bc, .int .i64 slo, .bool opn, .int .i64 off, .slice ta top.length tc, .slice ba bot.length bc]] w fun e w' => e = .returned (.agg #[.int .i64 (nearL off hei 1 3000).lo, .int .i64 (nearL off hei 1 3000).hi]) ∧ Gr w w' := by
  have gg := (Gr.al w (.cells #[.int .i64 tab, .slice pa pan.length pc, .int .i64 hei, .slice ta top.length tc, .slice ba bot.length bc, .int .i64 slo, .bool opn, .int .i64 off, .slice ta top.length tc, .slice ba bot.length bc] 124)).tr (Gr.al _ (.cells #[.int .i64 0, .int .i64 0] 37))
  have hb := (Box.new w [.int .i64 tab, .slice pa pan.length pc, .int .i64 hei, .slice ta top.length tc, .slice ba bot.length bc, .int .i64 slo, .bool opn, .int .i64 off, .slice ta top.length tc, .slice ba bot.length bc] 124 w.heap.size rfl).keep (Gr.al _ (.cells #[.int .i64 0, .int .i64 0] 37))
  have ob := Own.new (w.alloc (.cells #[.int .i64 tab, .slice pa pan.length pc, .int .i64 hei, .slice ta top.length tc, .slice ba bot.length bc, .int .i64 slo, .bool opn, .int .i64 off, .slice ta top.length tc, .slice ba bot.length bc] 124)) [.int .i64 0, .int .i64 0] 37 (w.heap.size + 1) (by simp)
  go_enter Try.func100, Try.ntmps100
  go_wp2_with fail
  refine (near_any _ _ _ _ _ _ _ _ _ _ _ _ _ _ hei 1 3000 h0 h1 h2 h3 (by omega) (by omega) _).mono ?_
  rintro e w2 ⟨rfl, hx⟩
  have ob2 := ob.keep hx
  obtain ⟨u0, u1⟩ := ob2.1.c2
  have z0 := ob2.2 0
  have z1 := ob2.2 1
  go_wp2
  refine bodyPost_ret (v := .agg #[.int .i64 (nearL off hei 1 3000).lo, .int .i64 (nearL off hei 1 3000).hi]) (by simp [results, Try.results100, go_sem, u0, u1]) rfl ⟨rfl, ?_⟩
  exact ((gg.tr hx).setCell (by simp) _).setCell (by simp) _

set_option maxRecDepth 100000 in
set_option maxHeartbeats 1000000 in
theorem slot_any (tab hei slo off : Int) (pan top bot : List Int) (pa ta ba : Option Addr) (pc tc bc : Nat) (opn : Bool) (h0 : 0 ≤ slo) (h1 : slo ≤ 3000) (h2 : 0 ≤ off) (h3 : off ≤ 3000) (w : World) :
    Calls Try.prog 101 #[.agg #[.int .i64 tab, .slice pa pan.length pc, .int .i64 hei, .slice ta top.length tc, .slice ba bot.length bc, .int .i64 slo, .bool opn, .int .i64 off, .slice ta top.length tc, .slice ba bot.length bc]] w fun e w' => e = .returned (.agg #[.int .i64 (nearL off slo 0 20).lo, .int .i64 (nearL off slo 0 20).hi]) ∧ Gr w w' := by
  have gg := (Gr.al w (.cells #[.int .i64 tab, .slice pa pan.length pc, .int .i64 hei, .slice ta top.length tc, .slice ba bot.length bc, .int .i64 slo, .bool opn, .int .i64 off, .slice ta top.length tc, .slice ba bot.length bc] 124)).tr (Gr.al _ (.cells #[.int .i64 0, .int .i64 0] 37))
  have ob := Own.new (w.alloc (.cells #[.int .i64 tab, .slice pa pan.length pc, .int .i64 hei, .slice ta top.length tc, .slice ba bot.length bc, .int .i64 slo, .bool opn, .int .i64 off, .slice ta top.length tc, .slice ba bot.length bc] 124)) [.int .i64 0, .int .i64 0] 37 (w.heap.size + 1) (by simp)
  go_enter Try.func101, Try.ntmps101
  go_wp2_with fail
  refine (near_any _ _ _ _ _ _ _ _ _ _ _ _ _ _ slo 0 20 h0 h1 h2 h3 (by omega) (by omega) _).mono ?_
  rintro e w2 ⟨rfl, hx⟩
  have ob2 := ob.keep hx
  obtain ⟨u0, u1⟩ := ob2.1.c2
  have z0 := ob2.2 0
  have z1 := ob2.2 1
  go_wp2
  refine bodyPost_ret (v := .agg #[.int .i64 (nearL off slo 0 20).lo, .int .i64 (nearL off slo 0 20).hi]) (by simp [results, Try.results101, go_sem, u0, u1]) rfl ⟨rfl, ?_⟩
  exact ((gg.tr hx).setCell (by simp) _).setCell (by simp) _

end Go.Proofs.Ytoihnilgmdcndaa

namespace Go.Proofs.Ytoihnilgmdcndaa
set_option linter.unusedVariables false
set_option linter.unusedSimpArgs false
open Go.RowKit

set_option maxRecDepth 100000 in
set_option maxHeartbeats 1000000 in
theorem flap_open (tab hei slo off : Int) (pan top bot : List Int) (pa ta ba : Option Addr) (pc tc bc : Nat) (j : Int) (w : World) :
    Calls Try.prog 106 #[.agg #[.int .i64 tab, .slice pa pan.length pc, .int .i64 hei, .slice ta top.length tc, .slice ba bot.length bc, .int .i64 slo, .bool true, .int .i64 off, .slice ta top.length tc, .slice ba bot.length bc], .int .i64 0, .int .i64 j] w fun e w' => e = .returned (.agg #[.int .i64 0, .int .i64 0]) ∧ Gr w w' := by
  go_enter Try.func106, Try.ntmps106
  go_wp2
  refine bodyPost_ret (v := .agg #[.int .i64 0, .int .i64 0]) (by simp [results, Try.results106, go_sem]) rfl ⟨rfl, ?_⟩
  exact (Gr.al _ _).tr (Gr.al _ _)

set_option maxRecDepth 100000 in
set_option maxHeartbeats 1000000 in
theorem flap_top (tab hei slo off : Int) (pan top bot : List Int) (pa ta ba : Option Addr) (pc tc bc : Nat) (i : Nat) (v : Int) (j : Int) (hj : j = (i : Int)) (hi : top[i]? = some v) (h0 : 0 ≤ v) (h1 : v ≤ 3000) (h2 : 0 ≤ off) (h3 : off ≤ 3000) (w : World) (hr : IRow w ta top) :
    Calls Try.prog 106 #[.agg #[.int .i64 tab, .slice pa pan.length pc, .int .i64 hei, .slice ta top.length tc, .slice ba bot.length bc, .int .i64 slo, .bool false, .int .i64 off, .slice ta top.length tc, .slice ba bot.length bc], .int .i64 0, .int .i64 j] w fun e w' => e = .returned (.agg #[.int .i64 (nearL off v 0 3000).lo, .int .i64 (nearL off v 0 3000).hi]) ∧ Gr w w' := by
  subst hj
  have gg := (Gr.al w (.cells #[.int .i64 tab, .slice pa pan.length pc, .int .i64 hei, .slice ta top.length tc, .slice ba bot.length bc, .int .i64 slo, .bool false, .int .i64 off, .slice ta top.length tc, .slice ba bot.length bc] 124)).tr (Gr.al _ (.cells #[.int .i64 0, .int .i64 0] 37))
  have hb := (Box.new w [.int .i64 tab, .slice pa pan.length pc, .int .i64 hei, .slice ta top.length tc, .slice ba bot.length bc, .int .i64 slo, .bool false, .int .i64 off, .slice ta top.length tc, .slice ba bot.length bc] 124 w.heap.size rfl).keep (Gr.al _ (.cells #[.int .i64 0, .int .i64 0] 37))
  have ob := Own.new (w.alloc (.cells #[.int .i64 tab, .slice pa pan.length pc, .int .i64 hei, .slice ta top.length tc, .slice ba bot.length bc, .int .i64 slo, .bool false, .int .i64 off, .slice ta top.length tc, .slice ba bot.length bc] 124)) [.int .i64 0, .int .i64 0] 37 (w.heap.size + 1) (by simp)
  have hl := hr.1
  have hi2 : i < top.length := (List.getElem?_eq_some_iff.1 hi).1
  have hi3 : (i : Int) < (top.length : Int) := by omega
  have Hi := Lib.hid hi
  clear hi
  go_enter Try.func106, Try.ntmps106
  go_wp2
  refine wp_abs (fun W => Gr w W ∧ Box W w.heap.size [.int .i64 tab, .slice pa pan.length pc, .int .i64 hei, .slice ta top.length tc, .slice ba bot.length bc, .int .i64 slo, .bool false, .int .i64 off, .slice ta top.length tc, .slice ba bot.length bc] ∧ Own W (w.heap.size + 1) [.int .i64 0, .int .i64 0]) ⟨gg, hb, ob⟩ ?_
  clear gg hb ob
  rintro W ⟨gg, hb, ob⟩
  have gd := Gr.dr W
  obtain ⟨b0, off0, rfl, hb0, r00⟩ := IRow.get hr Hi.out
  have r0 := (gg.tr gd).keep r00
  have hne : ¬ b0 = w.heap.size + 1 := by omega
  have hne2 : ¬ w.heap.size + 1 = b0 := by omega
  obtain ⟨d0, d1, d2, d3, d4, d5, d6, d7, d8, d9⟩ := (hb.keep gd).c10
  go_region_held3 (fun w' => w'.cell? ⟨b0, off0 + i, none⟩ = some (.int .i64 v) ∧ w'.cell? ⟨w.heap.size, 0, none⟩ = some (.int .i64 tab) ∧ w'.cell? ⟨w.heap.size, 1, none⟩ = some (.slice pa pan.length pc) ∧ w'.cell? ⟨w.heap.size, 2, none⟩ = some (.int .i64 hei) ∧ w'.cell? ⟨w.heap.size, 3, none⟩ = some (.slice (some ⟨b0, off0, none⟩) top.length tc) ∧ w'.cell? ⟨w.heap.size, 4, none⟩ = some (.slice ba bot.length bc) ∧ w'.cell? ⟨w.heap.size, 5, none⟩ = some (.int .i64 slo) ∧ w'.cell? ⟨w.heap.size, 6, none⟩ = some (.bool false) ∧ w'.cell? ⟨w.heap.size, 7, none⟩ = some (.int .i64 off) ∧ w'.cell? ⟨w.heap.size, 8, none⟩ = some (.slice (some ⟨b0, off0, none⟩) top.length tc) ∧ w'.cell? ⟨w.heap.size, 9, none⟩ = some (.slice ba bot.length bc)) (first | exact ⟨r0, d0, d1, d2, d3, d4, d5, d6, d7, d8, d9⟩ | exact ⟨s0, e0, e1, e2, e3, e4, e5, e6, e7, e8, e9⟩ | go_keep) (first | (go_at_call 129; (refine (near_any _ _ _ _ _ _ _ _ _ _ _ _ _ _ v 0 3000 h0 h1 h2 h3 (by omega) (by omega) _).mono ?_); rintro e w2 ⟨rfl, hx⟩; have s0 := hx.keep r0; (obtain ⟨e0, e1, e2, e3, e4, e5, e6, e7, e8, e9⟩ := (hb.keep (gd.tr hx)).c10); have ob2 := ob.keep (gd.tr hx); (obtain ⟨u0, u1⟩ := ob2.1.c2); have z0 := ob2.2 0; have z1 := ob2.2 1))
  go_wp2
  refine bodyPost_ret (v := .agg #[.int .i64 (nearL off v 0 3000).lo, .int .i64 (nearL off v 0 3000).hi]) (by simp [results, Try.results106, go_sem, u0, u1]) rfl ⟨rfl, ?_⟩
  exact ((gg.tr (gd.tr hx)).setCell (by simp) _).setCell (by simp) _

set_option maxRecDepth 100000 in
set_option maxHeartbeats 1000000 in
theorem flap_bot (tab hei slo off : Int) (pan top bot : List Int) (pa ta ba : Option Addr) (pc tc bc : Nat) (opn : Bool) (i : Nat) (v : Int) (j : Int) (hj : j = (i : Int)) (hi : bot[i]? = some v) (h0 : 0 ≤ v) (h1 : v ≤ 3000) (h2 : 0 ≤ off) (h3 : off ≤ 3000) (w : World) (hr : IRow w ba bot) :
    Calls Try.prog 106 #[.agg #[.int .i64 tab, .slice pa pan.length pc, .int .i64 hei, .slice ta top.length tc, .slice ba bot.length bc, .int .i64 slo, .bool opn, .int .i64 off, .slice ta top.length tc, .slice ba bot.length bc], .int .i64 1, .int .i64 j] w fun e w' => e = .returned (.agg #[.int .i64 (nearL off v 0 3000).lo, .int .i64 (nearL off v 0 3000).hi]) ∧ Gr w w' := by
  subst hj
  have gg := (Gr.al w (.cells #[.int .i64 tab, .slice pa pan.length pc, .int .i64 hei, .slice ta top.length tc, .slice ba bot.length bc, .int .i64 slo, .bool opn, .int .i64 off, .slice ta top.length tc, .slice ba bot.length bc] 124)).tr (Gr.al _ (.cells #[.int .i64 0, .int .i64 0] 37))
  have hb := (Box.new w [.int .i64 tab, .slice pa pan.length pc, .int .i64 hei, .slice ta top.length tc, .slice ba bot.length bc, .int .i64 slo, .bool opn, .int .i64 off, .slice ta top.length tc, .slice ba bot.length bc] 124 w.heap.size rfl).keep (Gr.al _ (.cells #[.int .i64 0, .int .i64 0] 37))
  have ob := Own.new (w.alloc (.cells #[.int .i64 tab, .slice pa pan.length pc, .int .i64 hei, .slice ta top.length tc, .slice ba bot.length bc, .int .i64 slo, .bool opn, .int .i64 off, .slice ta top.length tc, .slice ba bot.length bc] 124)) [.int .i64 0, .int .i64 0] 37 (w.heap.size + 1) (by simp)
  have hl := hr.1
  have hi2 : i < bot.length := (List.getElem?_eq_some_iff.1 hi).1
  have hi3 : (i : Int) < (bot.length : Int) := by omega
  have Hi := Lib.hid hi
  clear hi
  go_enter Try.func106, Try.ntmps106
  go_wp2
  refine wp_abs (fun W => Gr w W ∧ Box W w.heap.size [.int .i64 tab, .slice pa pan.length pc, .int .i64 hei, .slice ta top.length tc, .slice ba bot.length bc, .int .i64 slo, .bool opn, .int .i64 off, .slice ta top.length tc, .slice ba bot.length bc] ∧ Own W (w.heap.size + 1) [.int .i64 0, .int .i64 0]) ⟨gg, hb, ob⟩ ?_
  clear gg hb ob
  rintro W ⟨gg, hb, ob⟩
  have gd := Gr.dr W
  obtain ⟨b0, off0, rfl, hb0, r00⟩ := IRow.get hr Hi.out
  have r0 := (gg.tr gd).keep r00
  have hne : ¬ b0 = w.heap.size + 1 := by omega
  have hne2 : ¬ w.heap.size + 1 = b0 := by omega
  obtain ⟨d0, d1, d2, d3, d4, d5, d6, d7, d8, d9⟩ := (hb.keep gd).c10
  go_region_held3 (fun w' => w'.cell? ⟨b0, off0 + i, none⟩ = some (.int .i64 v) ∧ w'.cell? ⟨w.heap.size, 0, none⟩ = some (.int .i64 tab) ∧ w'.cell? ⟨w.heap.size, 1, none⟩ = some (.slice pa pan.length pc) ∧ w'.cell? ⟨w.heap.size, 2, none⟩ = some (.int .i64 hei) ∧ w'.cell? ⟨w.heap.size, 3, none⟩ = some (.slice ta top.length tc) ∧ w'.cell? ⟨w.heap.size, 4, none⟩ = some (.slice (some ⟨b0, off0, none⟩) bot.length bc) ∧ w'.cell? ⟨w.heap.size, 5, none⟩ = some (.int .i64 slo) ∧ w'.cell? ⟨w.heap.size, 6, none⟩ = some (.bool opn) ∧ w'.cell? ⟨w.heap.size, 7, none⟩ = some (.int .i64 off) ∧ w'.cell? ⟨w.heap.size, 8, none⟩ = some (.slice ta top.length tc) ∧ w'.cell? ⟨w.heap.size, 9, none⟩ = some (.slice (some ⟨b0, off0, none⟩) bot.length bc)) (first | exact ⟨r0, d0, d1, d2, d3, d4, d5, d6, d7, d8, d9⟩ | exact ⟨s0, e0, e1, e2, e3, e4, e5, e6, e7, e8, e9⟩ | go_keep) (first | (go_at_call 129; (refine (near_any _ _ _ _ _ _ _ _ _ _ _ _ _ _ v 0 3000 h0 h1 h2 h3 (by omega) (by omega) _).mono ?_); rintro e w2 ⟨rfl, hx⟩; have s0 := hx.keep r0; (obtain ⟨e0, e1, e2, e3, e4, e5, e6, e7, e8, e9⟩ := (hb.keep (gd.tr hx)).c10); have ob2 := ob.keep (gd.tr hx); (obtain ⟨u0, u1⟩ := ob2.1.c2); have z0 := ob2.2 0; have z1 := ob2.2 1))
  go_wp2
  refine bodyPost_ret (v := .agg #[.int .i64 (nearL off v 0 3000).lo, .int .i64 (nearL off v 0 3000).hi]) (by simp [results, Try.results106, go_sem, u0, u1]) rfl ⟨rfl, ?_⟩
  exact ((gg.tr (gd.tr hx)).setCell (by simp) _).setCell (by simp) _

set_option maxRecDepth 100000 in
theorem layS_any (tab hei slo off : Int) (pan top bot : List Int) (pa ta ba : Option Addr) (pc tc bc : Nat) (opn : Bool) (w : World) :
    Calls Try.prog 68 #[.agg #[.int .i64 tab, .slice pa pan.length pc, .int .i64 hei, .slice ta top.length tc, .slice ba bot.length bc, .int .i64 slo, .bool opn], .int .i64 off] w fun e w' => e = .returned (.agg #[.int .i64 tab, .slice pa pan.length pc, .int .i64 hei, .slice ta top.length tc, .slice ba bot.length bc, .int .i64 slo, .bool opn, .int .i64 off, .slice ta top.length tc, .slice ba bot.length bc]) ∧ Gr w w' := by
  go_enter Try.func68, Try.ntmps68
  go_wp2
  refine bodyPost_ret (v := .agg #[.int .i64 tab, .slice pa pan.length pc, .int .i64 hei, .slice ta top.length tc, .slice ba bot.length bc, .int .i64 slo, .bool opn, .int .i64 off, .slice ta top.length tc, .slice ba bot.length bc]) (by simp [results, Try.results68, go_sem]) rfl ⟨rfl, ?_⟩
  exact (Gr.al _ _).tr (Gr.al _ _)

end Go.Proofs.Ytoihnilgmdcndaa

namespace Go.Proofs.Ytoihnilgmdcndaa
set_option linter.unusedVariables false
set_option linter.unusedSimpArgs false
open Go.RowKit

theorem less_one (s : Sp) (c d : Int) (hs : SpB 1000000000 s) (hl : SpB 1000000000 ⟨c, d⟩) (ad : Option Addr) (cap : Nat) (w : World) (hr : SRow w ad [⟨c, d⟩]) :
    Calls Try.prog 78 #[.agg #[.int .i64 s.lo, .int .i64 s.hi], .slice ad 1 cap] w fun e w' => e = .returned (.agg #[.int .i64 (s.lo - d), .int .i64 (s.hi - c)]) ∧ Gr w w' :=
  less_any s [⟨c, d⟩] (by simp) hs (by intro x hx; simp at hx; subst hx; exact hl) ad cap w hr

theorem near_bd {off m lo hi : Int} (h0 : 0 ≤ m) (h1 : m ≤ 3000) (h2 : 0 ≤ off) (h3 : off ≤ 3000) (h4 : 0 ≤ lo) (h5 : lo ≤ 3000) (h6 : 0 ≤ hi) (h7 : hi ≤ 3000) :
    0 ≤ (nearL off m lo hi).lo ∧ (nearL off m lo hi).lo ≤ 3000 ∧ 0 ≤ (nearL off m lo hi).hi ∧ (nearL off m lo hi).hi ≤ 3000 := by
  unfold nearL
  simp only
  omega

set_option maxRecDepth 100000 in
set_option maxHeartbeats 1000000 in
theorem flat_panel (tab hei slo off : Int) (pan top bot : List Int) (pa ta ba : Option Addr) (pc tc bc : Nat) (opn : Bool) (i : Nat) (v : Int) (hi4 : i < 4) (hi : pan[i]? = some v) (h0 : 0 ≤ v) (h1 : v ≤ 3000) (h2 : 0 ≤ off) (h3 : off ≤ 3000) (w : World) (hr : IRow w pa pan) :
    Calls Try.prog 79 #[.agg #[.int .i64 tab, .slice pa pan.length pc, .int .i64 hei, .slice ta top.length tc, .slice ba bot.length bc, .int .i64 slo, .bool opn, .int .i64 off, .slice ta top.length tc, .slice ba bot.length bc], .int .i64 i] w fun e w' => e = .returned (.agg #[.int .i64 (1000 * (nearL off v 1 3000).lo), .int .i64 (1000 * (nearL off v 1 3000).hi)]) ∧ Gr w w' := by
  have gg := (Gr.al w (.cells #[.int .i64 tab, .slice pa pan.length pc, .int .i64 hei, .slice ta top.length tc, .slice ba bot.length bc, .int .i64 slo, .bool opn, .int .i64 off, .slice ta top.length tc, .slice ba bot.length bc] 124)).tr (Gr.al _ (.cells #[.int .i64 0, .int .i64 0] 37))
  have ob := Own.new (w.alloc (.cells #[.int .i64 tab, .slice pa pan.length pc, .int .i64 hei, .slice ta top.length tc, .slice ba bot.length bc, .int .i64 slo, .bool opn, .int .i64 off, .slice ta top.length tc, .slice ba bot.length bc] 124)) [.int .i64 0, .int .i64 0] 37 (w.heap.size + 1) (by simp)
  obtain ⟨n0, n1, n2, n3⟩ := near_bd (lo := 1) (hi := 3000) h0 h1 h2 h3 (by omega) (by omega) (by omega) (by omega)
  have Hi := Lib.hid hi
  have hr1 := hr.grow gg
  have hk : (i : Int) < 4 := by omega
  clear hi
  go_enter Try.func79, Try.ntmps79
  go_wp2_with fail
  refine (panel_any _ _ _ _ _ _ _ _ _ _ _ _ _ _ i v Hi.out h0 h1 h2 h3 _ hr1).mono ?_
  rintro e w2 ⟨rfl, hx⟩
  go_wp2_with fail
  refine (times_any 1000 _ _ (by omega) (by omega) (by omega) (by omega) _).mono ?_
  rintro e w3 ⟨rfl, hy⟩
  have ob2 := ob.keep (hx.tr hy)
  obtain ⟨u0, u1⟩ := ob2.1.c2
  have z0 := ob2.2 0
  have z1 := ob2.2 1
  go_wp2
  refine bodyPost_ret (v := .agg #[.int .i64 (1000 * (nearL off v 1 3000).lo), .int .i64 (1000 * (nearL off v 1 3000).hi)]) (by simp [results, Try.results79, go_sem, u0, u1]) rfl ⟨rfl, ?_⟩
  exact ((gg.tr (hx.tr hy)).setCell (by simp) _).setCell (by simp) _

set_option maxRecDepth 100000 in
set_option maxHeartbeats 1000000 in
theorem flat_height (tab hei slo off : Int) (pan top bot : List Int) (pa ta ba : Option Addr) (pc tc bc : Nat) (opn : Bool) (h0 : 0 ≤ hei) (h1 : hei ≤ 3000) (h2 : 0 ≤ off) (h3 : off ≤ 3000) (w : World) :
    Calls Try.prog 79 #[.agg #[.int .i64 tab, .slice pa pan.length pc, .int .i64 hei, .slice ta top.length tc, .slice ba bot.length bc, .int .i64 slo, .bool opn, .int .i64 off, .slice ta top.length tc, .slice ba bot.length bc], .int .i64 4] w fun e w' => e = .returned (.agg #[.int .i64 (1000 * (nearL off hei 1 3000).lo), .int .i64 (1000 * (nearL off hei 1 3000).hi)]) ∧ Gr w w' := by
  have gg := (Gr.al w (.cells #[.int .i64 tab, .slice pa pan.length pc, .int .i64 hei, .slice ta top.length tc, .slice ba bot.length bc, .int .i64 slo, .bool opn, .int .i64 off, .slice ta top.length tc, .slice ba bot.length bc] 124)).tr (Gr.al _ (.cells #[.int .i64 0, .int .i64 0] 37))
  have ob := Own.new (w.alloc (.cells #[.int .i64 tab, .slice pa pan.length pc, .int .i64 hei, .slice ta top.length tc, .slice ba bot.length bc, .int .i64 slo, .bool opn, .int .i64 off, .slice ta top.length tc, .slice ba bot.length bc] 124)) [.int .i64 0, .int .i64 0] 37 (w.heap.size + 1) (by simp)
  obtain ⟨n0, n1, n2, n3⟩ := near_bd (lo := 1) (hi := 3000) h0 h1 h2 h3 (by omega) (by omega) (by omega) (by omega)
  go_enter Try.func79, Try.ntmps79
  go_wp2_with fail
  refine (height_any _ _ _ _ _ _ _ _ _ _ _ _ _ _ h0 h1 h2 h3 _).mono ?_
  rintro e w2 ⟨rfl, hx⟩
  go_wp2_with fail
  refine (times_any 1000 _ _ (by omega) (by omega) (by omega) (by omega) _).mono ?_
  rintro e w3 ⟨rfl, hy⟩
  have ob2 := ob.keep (hx.tr hy)
  obtain ⟨u0, u1⟩ := ob2.1.c2
  have z0 := ob2.2 0
  have z1 := ob2.2 1
  go_wp2
  refine bodyPost_ret (v := .agg #[.int .i64 (1000 * (nearL off hei 1 3000).lo), .int .i64 (1000 * (nearL off hei 1 3000).hi)]) (by simp [results, Try.results79, go_sem, u0, u1]) rfl ⟨rfl, ?_⟩
  exact ((gg.tr (hx.tr hy)).setCell (by simp) _).setCell (by simp) _

/-- A gap: what is left of a panel beside two flaps. -/
def gapS (p f : Sp) : Sp := ⟨1000 * p.lo - 2000 * f.hi, 1000 * p.hi - 2000 * f.lo⟩

set_option maxRecDepth 100000 in
set_option maxHeartbeats 2000000 in
/-- The gap of check k, whose panel is pan[i], whose flap is f. -/
theorem flat_gap (tab hei slo off : Int) (pan top bot : List Int) (pa ta ba : Option Addr) (pc tc bc : Nat) (opn : Bool) (k kind : Int) (i : Nat) (v : Int) (f : Sp) (hk0 : 5 ≤ k) (hk1 : k ≤ 8) (hkind : kind = (k - 5) % 2) (hik : 1 - kind = (i : Int)) (hi : pan[i]? = some v) (h0 : 0 ≤ v) (h1 : v ≤ 3000) (h2 : 0 ≤ off) (h3 : off ≤ 3000)
    (f0 : 0 ≤ f.lo) (f1 : f.lo ≤ 3000) (f2 : 0 ≤ f.hi) (f3 : f.hi ≤ 3000) (w : World) (hr : IRow w pa pan)
    (hf : ∀ W, Gr w W → Calls Try.prog 106 #[.agg #[.int .i64 tab, .slice pa pan.length pc, .int .i64 hei, .slice ta top.length tc, .slice ba bot.length bc, .int .i64 slo, .bool opn, .int .i64 off, .slice ta top.length tc, .slice ba bot.length bc], .int .i64 ((k - 5) / 2), .int .i64 kind] W fun e w' => e = .returned (.agg #[.int .i64 f.lo, .int .i64 f.hi]) ∧ Gr W w') :
    Calls Try.prog 79 #[.agg #[.int .i64 tab, .slice pa pan.length pc, .int .i64 hei, .slice ta top.length tc, .slice ba bot.length bc, .int .i64 slo, .bool opn, .int .i64 off, .slice ta top.length tc, .slice ba bot.length bc], .int .i64 k] w fun e w' => e = .returned (.agg #[.int .i64 (gapS (nearL off v 1 3000) f).lo, .int .i64 (gapS (nearL off v 1 3000) f).hi]) ∧ Gr w w' := by
  have gg := (Gr.al w (.cells #[.int .i64 tab, .slice pa pan.length pc, .int .i64 hei, .slice ta top.length tc, .slice ba bot.length bc, .int .i64 slo, .bool opn, .int .i64 off, .slice ta top.length tc, .slice ba bot.length bc] 124)).tr (Gr.al _ (.cells #[.int .i64 0, .int .i64 0] 37))
  have hb := (Box.new w [.int .i64 tab, .slice pa pan.length pc, .int .i64 hei, .slice ta top.length tc, .slice ba bot.length bc, .int .i64 slo, .bool opn, .int .i64 off, .slice ta top.length tc, .slice ba bot.length bc] 124 w.heap.size rfl).keep (Gr.al _ (.cells #[.int .i64 0, .int .i64 0] 37))
  have ob := Own.new (w.alloc (.cells #[.int .i64 tab, .slice pa pan.length pc, .int .i64 hei, .slice ta top.length tc, .slice ba bot.length bc, .int .i64 slo, .bool opn, .int .i64 off, .slice ta top.length tc, .slice ba bot.length bc] 124)) [.int .i64 0, .int .i64 0] 37 (w.heap.size + 1) (by simp)
  obtain ⟨n0, n1, n2, n3⟩ := near_bd (lo := 1) (hi := 3000) h0 h1 h2 h3 (by omega) (by omega) (by omega) (by omega)
  have Hi := Lib.hid hi
  have Hf := Lib.hid hf
  have hk4 : ¬ k < 4 := by omega
  have hk5 : (k == 4) = false := by rw [beq_eq_false_iff_ne]; omega
  have hk6 : (k == 9) = false := by rw [beq_eq_false_iff_ne]; omega
  have d0 : 0 ≤ kind := by omega
  have d1 : kind ≤ 1 := by omega
  have HK := Lib.hid hkind
  have HI := Lib.hid hik
  clear hi hf hkind hik
  go_enter Try.func79, Try.ntmps79
  go_wp2_with fail
  refine (gap_any k hk0 hk1 _).mono ?_
  rintro e w' ⟨rfl, rfl⟩
  rw [← HK.out]
  go_wp2
  refine wp_abs (fun W => Gr w W ∧ Box W w.heap.size [.int .i64 tab, .slice pa pan.length pc, .int .i64 hei, .slice ta top.length tc, .slice ba bot.length bc, .int .i64 slo, .bool opn, .int .i64 off, .slice ta top.length tc, .slice ba bot.length bc] ∧ Own W (w.heap.size + 1) [.int .i64 0, .int .i64 0]) ⟨gg, hb, ob⟩ ?_
  clear gg hb ob
  rintro W ⟨gg, hb, ob⟩
  have gX := Gr.dr W
  obtain ⟨e0, e1, e2, e3, e4, e5, e6, e7, e8, e9⟩ := (hb.keep gX).c10
  have tok1 : True := trivial
  go_region_held3 (fun w' => w'.cell? ⟨w.heap.size, 0, none⟩ = some (.int .i64 tab) ∧ w'.cell? ⟨w.heap.size, 1, none⟩ = some (.slice pa pan.length pc) ∧ w'.cell? ⟨w.heap.size, 2, none⟩ = some (.int .i64 hei) ∧ w'.cell? ⟨w.heap.size, 3, none⟩ = some (.slice ta top.length tc) ∧ w'.cell? ⟨w.heap.size, 4, none⟩ = some (.slice ba bot.length bc) ∧ w'.cell? ⟨w.heap.size, 5, none⟩ = some (.int .i64 slo) ∧ w'.cell? ⟨w.heap.size, 6, none⟩ = some (.bool opn) ∧ w'.cell? ⟨w.heap.size, 7, none⟩ = some (.int .i64 off) ∧ w'.cell? ⟨w.heap.size, 8, none⟩ = some (.slice ta top.length tc) ∧ w'.cell? ⟨w.heap.size, 9, none⟩ = some (.slice ba bot.length bc)) (first | exact ⟨e0, e1, e2, e3, e4, e5, e6, e7, e8, e9⟩ | go_keep) (first
    | (go_at_call 105; (refine (over_any kind d0 d1 _).mono ?_); rintro e w2 ⟨rfl, rfl⟩)
    | (go_at_call 103; rw [HI.out]; (refine (panel_any _ _ _ _ _ _ _ _ _ _ _ _ _ _ i v Hi.out h0 h1 h2 h3 _ (hr.grow (gg.tr gX))).mono ?_); rintro e w3 ⟨rfl, hx⟩; replace gX := gX.tr hx; obtain ⟨e0, e1, e2, e3, e4, e5, e6, e7, e8, e9⟩ := (hb.keep gX).c10)
    | (go_at_call 96; have _t := tok1; (refine (times_any 1000 _ _ (by omega) (by omega) (by omega) (by omega) _).mono ?_); clear tok1 _t; rintro e w4 ⟨rfl, hx⟩; replace gX := gX.tr hx; obtain ⟨e0, e1, e2, e3, e4, e5, e6, e7, e8, e9⟩ := (hb.keep gX).c10)
    | (go_at_call 106; (refine (Hf.out _ (gg.tr gX)).mono ?_); rintro e w5 ⟨rfl, hx⟩; replace gX := gX.tr hx; obtain ⟨e0, e1, e2, e3, e4, e5, e6, e7, e8, e9⟩ := (hb.keep gX).c10)
    | (go_at_call 96; (refine (times_any 2000 _ _ (by omega) (by omega) (by omega) (by omega) _).mono ?_); rintro e w6 ⟨rfl, hx⟩; replace gX := gX.tr hx; obtain ⟨e0, e1, e2, e3, e4, e5, e6, e7, e8, e9⟩ := (hb.keep gX).c10)
    | (go_at_call 78; (refine (less_one ⟨1000 * (nearL off v 1 3000).lo, 1000 * (nearL off v 1 3000).hi⟩ (2000 * f.lo) (2000 * f.hi) ⟨by simp only; omega, by simp only; omega, by simp only; omega, by simp only; omega⟩ ⟨by simp only; omega, by simp only; omega, by simp only; omega, by simp only; omega⟩ _ _ _ (SRow.new1 _ _ _ _ _ rfl)).mono ?_); rintro e w7 ⟨rfl, hx⟩; replace gX := gX.tr ((Gr.al _ _).tr hx); (obtain ⟨e0, e1, e2, e3, e4, e5, e6, e7, e8, e9⟩ := (hb.keep gX).c10); have ob2 := ob.keep gX; (obtain ⟨u0, u1⟩ := ob2.1.c2); have z0 := ob2.2 0; have z1 := ob2.2 1))
  all_goals
    go_wp2
    refine bodyPost_ret (v := .agg #[.int .i64 (gapS (nearL off v 1 3000) f).lo, .int .i64 (gapS (nearL off v 1 3000) f).hi]) (by simp [results, Try.results79, go_sem, u0, u1, gapS]) rfl ⟨rfl, ?_⟩
    exact ((gg.tr gX).setCell (by simp) _).setCell (by simp) _

end Go.Proofs.Ytoihnilgmdcndaa

namespace Go.Proofs.Ytoihnilgmdcndaa
set_option linter.unusedVariables false
set_option linter.unusedSimpArgs false
open Go.RowKit

theorem lost_mul {k c : Int} {opn : Bool} (h0 : 0 ≤ c) (h1 : c ≤ 10000) : 0 ≤ lostL k opn * c ∧ lostL k opn * c ≤ 20000 := by
  unfold lostL
  split <;> omega

def insideS (F : Sp) (L cl ch : Int) : Sp := ⟨F.lo - L * ch, F.hi - L * cl⟩

set_option maxRecDepth 100000 in
set_option maxHeartbeats 2000000 in
theorem inside_of (tab hei slo off : Int) (pan top bot : List Int) (pa ta ba : Option Addr) (pc tc bc : Nat) (opn : Bool) (k cl ch : Int) (F : Sp) (hF : SpB 10000000 F) (h0 : 0 ≤ cl) (h1 : cl ≤ 10000) (h2 : 0 ≤ ch) (h3 : ch ≤ 10000) (w : World)
    (hf : ∀ W, Gr w W → Calls Try.prog 79 #[.agg #[.int .i64 tab, .slice pa pan.length pc, .int .i64 hei, .slice ta top.length tc, .slice ba bot.length bc, .int .i64 slo, .bool opn, .int .i64 off, .slice ta top.length tc, .slice ba bot.length bc], .int .i64 k] W fun e w' => e = .returned (.agg #[.int .i64 F.lo, .int .i64 F.hi]) ∧ Gr W w') :
    Calls Try.prog 69 #[.agg #[.int .i64 tab, .slice pa pan.length pc, .int .i64 hei, .slice ta top.length tc, .slice ba bot.length bc, .int .i64 slo, .bool opn, .int .i64 off, .slice ta top.length tc, .slice ba bot.length bc], .int .i64 k, .agg #[.int .i64 cl, .int .i64 ch]] w fun e w' => e = .returned (.agg #[.int .i64 (insideS F (lostL k opn) cl ch).lo, .int .i64 (insideS F (lostL k opn) cl ch).hi]) ∧ Gr w w' := by
  have gg := ((Gr.al w (.cells #[.int .i64 tab, .slice pa pan.length pc, .int .i64 hei, .slice ta top.length tc, .slice ba bot.length bc, .int .i64 slo, .bool opn, .int .i64 off, .slice ta top.length tc, .slice ba bot.length bc] 124)).tr (Gr.al _ (.cells #[.int .i64 cl, .int .i64 ch] 37))).tr (Gr.al _ (.cells #[.int .i64 0, .int .i64 0] 37))
  have hb := (Box.new w [.int .i64 tab, .slice pa pan.length pc, .int .i64 hei, .slice ta top.length tc, .slice ba bot.length bc, .int .i64 slo, .bool opn, .int .i64 off, .slice ta top.length tc, .slice ba bot.length bc] 124 w.heap.size rfl).keep ((Gr.al _ (.cells #[.int .i64 cl, .int .i64 ch] 37)).tr (Gr.al _ (.cells #[.int .i64 0, .int .i64 0] 37)))
  have hc := (Box.new (w.alloc (.cells #[.int .i64 tab, .slice pa pan.length pc, .int .i64 hei, .slice ta top.length tc, .slice ba bot.length bc, .int .i64 slo, .bool opn, .int .i64 off, .slice ta top.length tc, .slice ba bot.length bc] 124)) [.int .i64 cl, .int .i64 ch] 37 (w.heap.size + 1) (by simp)).keep (Gr.al _ (.cells #[.int .i64 0, .int .i64 0] 37))
  have ob := Own.new ((w.alloc (.cells #[.int .i64 tab, .slice pa pan.length pc, .int .i64 hei, .slice ta top.length tc, .slice ba bot.length bc, .int .i64 slo, .bool opn, .int .i64 off, .slice ta top.length tc, .slice ba bot.length bc] 124)).alloc (.cells #[.int .i64 cl, .int .i64 ch] 37)) [.int .i64 0, .int .i64 0] 37 (w.heap.size + 1 + 1) (by simp)
  obtain ⟨m0, m1⟩ := lost_mul (k := k) (opn := opn) h0 h1
  obtain ⟨m2, m3⟩ := lost_mul (k := k) (opn := opn) h2 h3
  obtain ⟨f0, f1, f2, f3⟩ := hF
  have Hf := Lib.hid hf
  clear hf
  go_enter Try.func69, Try.ntmps69
  go_wp2
  refine wp_abs (fun W => Gr w W ∧ Box W w.heap.size [.int .i64 tab, .slice pa pan.length pc, .int .i64 hei, .slice ta top.length tc, .slice ba bot.length bc, .int .i64 slo, .bool opn, .int .i64 off, .slice ta top.length tc, .slice ba bot.length bc] ∧ Box W (w.heap.size + 1) [.int .i64 cl, .int .i64 ch] ∧ Own W (w.heap.size + 1 + 1) [.int .i64 0, .int .i64 0]) ⟨gg, hb, hc, ob⟩ ?_
  clear gg hb hc ob
  rintro W ⟨gg, hb, hc, ob⟩
  have gX := Gr.dr W
  have ne2 : ¬ w.heap.size + 1 + 1 = w.heap.size := by omega
  have ne3 : ¬ w.heap.size = w.heap.size + 1 + 1 := by omega
  obtain ⟨e0, e1, e2, e3, e4, e5, e6, e7, e8, e9⟩ := (hb.keep gX).c10
  obtain ⟨q0, q1⟩ := (hc.keep gX).c2
  go_region_held3 (fun w' => w'.cell? ⟨w.heap.size + 1, 0, none⟩ = some (.int .i64 cl) ∧ w'.cell? ⟨w.heap.size + 1, 1, none⟩ = some (.int .i64 ch) ∧ w'.cell? ⟨w.heap.size, 0, none⟩ = some (.int .i64 tab) ∧ w'.cell? ⟨w.heap.size, 1, none⟩ = some (.slice pa pan.length pc) ∧ w'.cell? ⟨w.heap.size, 2, none⟩ = some (.int .i64 hei) ∧ w'.cell? ⟨w.heap.size, 3, none⟩ = some (.slice ta top.length tc) ∧ w'.cell? ⟨w.heap.size, 4, none⟩ = some (.slice ba bot.length bc) ∧ w'.cell? ⟨w.heap.size, 5, none⟩ = some (.int .i64 slo) ∧ w'.cell? ⟨w.heap.size, 6, none⟩ = some (.bool opn) ∧ w'.cell? ⟨w.heap.size, 7, none⟩ = some (.int .i64 off) ∧ w'.cell? ⟨w.heap.size, 8, none⟩ = some (.slice ta top.length tc) ∧ w'.cell? ⟨w.heap.size, 9, none⟩ = some (.slice ba bot.length bc)) (first | exact ⟨q0, q1, e0, e1, e2, e3, e4, e5, e6, e7, e8, e9⟩ | go_keep) (first
    | (go_at_call 79; (refine (Hf.out _ (gg.tr gX)).mono ?_); rintro e w3 ⟨rfl, hx⟩; replace gX := gX.tr hx; (obtain ⟨e0, e1, e2, e3, e4, e5, e6, e7, e8, e9⟩ := (hb.keep gX).c10); obtain ⟨q0, q1⟩ := (hc.keep gX).c2)
    | (go_at_call 97; (refine (lost_any _ _ _ _ _ _ _ _ _ _ _ _ _ _ k _).mono ?_); rintro e w4 ⟨rfl, hx⟩; replace gX := gX.tr hx; (obtain ⟨e0, e1, e2, e3, e4, e5, e6, e7, e8, e9⟩ := (hb.keep gX).c10); obtain ⟨q0, q1⟩ := (hc.keep gX).c2)
    | (go_at_call 96; (refine (times_any (lostL k opn) cl ch (by omega) (by omega) (by omega) (by omega) _).mono ?_); rintro e w5 ⟨rfl, hx⟩; replace gX := gX.tr hx; (obtain ⟨e0, e1, e2, e3, e4, e5, e6, e7, e8, e9⟩ := (hb.keep gX).c10); obtain ⟨q0, q1⟩ := (hc.keep gX).c2)
    | (go_at_call 78; (refine (less_one F (lostL k opn * cl) (lostL k opn * ch) ⟨by omega, by omega, by omega, by omega⟩ ⟨by simp only; omega, by simp only; omega, by simp only; omega, by simp only; omega⟩ _ _ _ (SRow.new1 _ _ _ _ _ rfl)).mono ?_); rintro e w7 ⟨rfl, hx⟩; replace gX := gX.tr ((Gr.al _ _).tr hx); (obtain ⟨e0, e1, e2, e3, e4, e5, e6, e7, e8, e9⟩ := (hb.keep gX).c10); (obtain ⟨q0, q1⟩ := (hc.keep gX).c2); have ob2 := ob.keep gX; (obtain ⟨u0, u1⟩ := ob2.1.c2); have z0 := ob2.2 0; have z1 := ob2.2 1))
  all_goals
    go_wp2
    refine bodyPost_ret (v := .agg #[.int .i64 (insideS F (lostL k opn) cl ch).lo, .int .i64 (insideS F (lostL k opn) cl ch).hi]) (by simp [results, Try.results69, go_sem, u0, u1, insideS]) rfl ⟨rfl, ?_⟩
    exact ((gg.tr gX).setCell (by simp; omega) _).setCell (by simp; omega) _

end Go.Proofs.Ytoihnilgmdcndaa

namespace Go.Proofs.Ytoihnilgmdcndaa
set_option linter.unusedVariables false
set_option linter.unusedSimpArgs false
open Go.RowKit

/-- A valid blank. -/
structure GoodB (tab hei slo : Int) (pan top bot : List Int) (opn : Bool) : Prop where
  l4 : pan.length = 4
  t2 : top.length = 2
  b2 : bot.length = 2
  gtab : inB 0 100 [tab] = true
  gpan : inB 1 3000 pan = true
  ghei : inB 1 3000 [hei] = true
  gtop : inB 0 3000 top = true
  gbot : inB 0 3000 bot = true
  gslo : inB 0 20 [slo] = true
  gopn : opn = true → inB 0 0 top = true

theorem in_one {lo hi x : Int} (h : inB lo hi [x] = true) : lo ≤ x ∧ x ≤ hi := by simpa [inB, in1] using h

theorem in_at {lo hi : Int} {l : List Int} (h : inB lo hi l = true) {k : Nat} {x : Int} (hx : l[k]? = some x) : lo ≤ x ∧ x ≤ hi := by
  have := List.all_eq_true.1 h x (List.mem_of_getElem? hx)
  simpa [in1] using this

set_option maxRecDepth 100000 in
set_option maxHeartbeats 2000000 in
theorem checkB_ok (tab hei slo : Int) (pan top bot : List Int) (pa ta ba : Option Addr) (pc tc bc : Nat) (opn : Bool) (G : GoodB tab hei slo pan top bot opn) (w : World) (hp : IRow w pa pan) (ht : IRow w ta top) (hb : IRow w ba bot) :
    Calls Try.prog 17 #[.agg #[.int .i64 tab, .slice pa pan.length pc, .int .i64 hei, .slice ta top.length tc, .slice ba bot.length bc, .int .i64 slo, .bool opn]] w fun e w' => e = .returned (.int .i64 0) ∧ Gr w w' := by
  have l1 : ((pan.length : Int) != 4) = false := by rw [G.l4]; rfl
  have l2 : ((top.length : Int) != 2) = false := by rw [G.t2]; rfl
  have l3 : ((bot.length : Int) != 2) = false := by rw [G.b2]; rfl
  have gX := Gr.al w (.cells #[.int .i64 tab, .slice pa pan.length pc, .int .i64 hei, .slice ta top.length tc, .slice ba bot.length bc, .int .i64 slo, .bool opn] 24)
  have hB := Box.new w [.int .i64 tab, .slice pa pan.length pc, .int .i64 hei, .slice ta top.length tc, .slice ba bot.length bc, .int .i64 slo, .bool opn] 24 w.heap.size rfl
  have c1 := Lib.hid G.gtab
  have c2 := Lib.hid G.gpan
  have c3 := Lib.hid G.ghei
  have c4 := Lib.hid G.gtop
  have c5 := Lib.hid G.gbot
  have c6 := Lib.hid G.gslo
  have c7 := Lib.hid G.gopn
  clear G
  go_enter Try.func17, Try.ntmps17
  go_wp2_with fail
  have hr1 := within_any 0 100 [tab] _ c1.out (some ⟨w.heap.size + 1, 0, none⟩) 1 _ (IRow.new' (w.alloc (.cells #[.int .i64 tab, .slice pa pan.length pc, .int .i64 hei, .slice ta top.length tc, .slice ba bot.length bc, .int .i64 slo, .bool opn] 24)) 3 [tab] (by simp) (w.heap.size + 1) (by simp) #[.int .i64 tab] (by simp))
  refine hr1.mono ?_
  rintro e w1 ⟨rfl, hx'⟩
  have hx := (Gr.al _ _).tr hx'
  have B1 := hB.keep hx
  have g1 := gX.tr hx
  clear hr1 hx hx'
  obtain ⟨q0, q1, q2, q3, q4, q5, q6⟩ := B1.c7
  have hr1 := within_any 1 3000 pan _ c2.out pa pc w1 (hp.grow g1)
  go_wp2_with fail
  refine hr1.mono ?_
  rintro e w2 ⟨rfl, hx⟩
  have B2 := B1.keep hx
  have g2 := g1.tr hx
  clear hr1 hx B1
  obtain ⟨q0, q1, q2, q3, q4, q5, q6⟩ := B2.c7
  have hr1 := within_any 1 3000 [hei] _ c3.out (some ⟨w2.heap.size, 0, none⟩) 1 _ (IRow.new' w2 3 [hei] (by simp) (w2.heap.size) (by simp) #[.int .i64 hei] (by simp))
  go_wp2_with fail
  refine hr1.mono ?_
  rintro e w3 ⟨rfl, hx'⟩
  have hx := (Gr.al _ _).tr hx'
  have B3 := B2.keep hx
  have g3 := g2.tr hx
  clear hr1 hx hx' B2
  obtain ⟨q0, q1, q2, q3, q4, q5, q6⟩ := B3.c7
  have hr1 := within_any 0 3000 top _ c4.out ta tc w3 (ht.grow g3)
  go_wp2_with fail
  refine hr1.mono ?_
  rintro e w4 ⟨rfl, hx⟩
  have B4 := B3.keep hx
  have g4 := g3.tr hx
  clear hr1 hx B3
  obtain ⟨q0, q1, q2, q3, q4, q5, q6⟩ := B4.c7
  have hr1 := within_any 0 3000 bot _ c5.out ba bc w4 (hb.grow g4)
  go_wp2_with fail
  refine hr1.mono ?_
  rintro e w5 ⟨rfl, hx⟩
  have B5 := B4.keep hx
  have g5 := g4.tr hx
  clear hr1 hx B4
  obtain ⟨q0, q1, q2, q3, q4, q5, q6⟩ := B5.c7
  have hr1 := within_any 0 20 [slo] _ c6.out (some ⟨w5.heap.size, 0, none⟩) 1 _ (IRow.new' w5 3 [slo] (by simp) (w5.heap.size) (by simp) #[.int .i64 slo] (by simp))
  go_wp2_with fail
  refine hr1.mono ?_
  rintro e w6 ⟨rfl, hx'⟩
  have hx := (Gr.al _ _).tr hx'
  have B6 := B5.keep hx
  have g6 := g5.tr hx
  clear hr1 hx hx' B5
  obtain ⟨q0, q1, q2, q3, q4, q5, q6⟩ := B6.c7
  cases opn with
  | false =>
    go_wp2
    go_ret
    exact ⟨rfl, g6⟩
  | true =>
    have hr1 := within_any 0 0 top _ (c7.out rfl) ta tc w6 (ht.grow g6)
    go_wp2_with fail
    refine hr1.mono ?_
    rintro e w7 ⟨rfl, hx⟩
    have g7 := g6.tr hx
    clear hr1 hx
    go_wp2
    go_ret
    exact ⟨rfl, g7⟩

end Go.Proofs.Ytoihnilgmdcndaa

namespace Go.Proofs.Ytoihnilgmdcndaa
set_option linter.unusedVariables false
set_option linter.unusedSimpArgs false
open Go.RowKit

def flapS (opn : Bool) (off : Int) (top bot : List Int) (en kind : Nat) : Sp :=
  if en = 0 then (if opn then ⟨0, 0⟩ else nearL off (top.getD kind 0) 0 3000) else nearL off (bot.getD kind 0) 0 3000

/-- What the measure of check k is while no caliper is lost. -/
def flatAt (off hei : Int) (pan top bot : List Int) (opn : Bool) (k : Nat) : Sp :=
  if k < 4 then ⟨1000 * (nearL off (pan.getD k 0) 1 3000).lo, 1000 * (nearL off (pan.getD k 0) 1 3000).hi⟩
  else if k = 4 then ⟨1000 * (nearL off hei 1 3000).lo, 1000 * (nearL off hei 1 3000).hi⟩
  else gapS (nearL off (pan.getD (1 - (k - 5) % 2) 0) 1 3000) (flapS opn off top bot ((k - 5) / 2) ((k - 5) % 2))

theorem getD_eq {l : List Int} {k : Nat} {x : Int} (h : l[k]? = some x) : l.getD k 0 = x := by simp [h]

theorem flap_bd {opn : Bool} {off : Int} {top bot : List Int} (gt : inB 0 3000 top = true) (gb : inB 0 3000 bot = true) (lt : top.length = 2) (lb : bot.length = 2) (h2 : 0 ≤ off) (h3 : off ≤ 3000) {en kind : Nat} (hk : kind < 2) :
    0 ≤ (flapS opn off top bot en kind).lo ∧ (flapS opn off top bot en kind).lo ≤ 3000 ∧ 0 ≤ (flapS opn off top bot en kind).hi ∧ (flapS opn off top bot en kind).hi ≤ 3000 := by
  obtain ⟨x, hx⟩ := get_of_lt (show kind < top.length by omega)
  obtain ⟨y, hy⟩ := get_of_lt (show kind < bot.length by omega)
  obtain ⟨a, b⟩ := in_at gt hx
  obtain ⟨c, d⟩ := in_at gb hy
  unfold flapS
  rw [getD_eq hx, getD_eq hy]
  split
  · split
    · simp
    · exact near_bd a b h2 h3 (by omega) (by omega) (by omega) (by omega)
  · exact near_bd c d h2 h3 (by omega) (by omega) (by omega) (by omega)

theorem flat_bd {tab hei slo off : Int} {pan top bot : List Int} {opn : Bool} (G : GoodB tab hei slo pan top bot opn) (h2 : 0 ≤ off) (h3 : off ≤ 3000) {k : Nat} (hk : k < 9) : SpB 10000000 (flatAt off hei pan top bot opn k) := by
  obtain ⟨e0, e1⟩ := in_one G.ghei
  unfold flatAt
  split
  · rename_i h4
    obtain ⟨x, hx⟩ := get_of_lt (show k < pan.length by rw [G.l4]; omega)
    obtain ⟨a, b⟩ := in_at G.gpan hx
    obtain ⟨n0, n1, n2, n3⟩ := near_bd (lo := 1) (hi := 3000) (m := x) (by omega) b h2 h3 (by omega) (by omega) (by omega) (by omega)
    rw [getD_eq hx]
    exact ⟨by simp only; omega, by simp only; omega, by simp only; omega, by simp only; omega⟩
  · split
    · obtain ⟨n0, n1, n2, n3⟩ := near_bd (lo := 1) (hi := 3000) (m := hei) (by omega) e1 h2 h3 (by omega) (by omega) (by omega) (by omega)
      exact ⟨by simp only; omega, by simp only; omega, by simp only; omega, by simp only; omega⟩
    · obtain ⟨x, hx⟩ := get_of_lt (show 1 - (k - 5) % 2 < pan.length by rw [G.l4]; omega)
      obtain ⟨a, b⟩ := in_at G.gpan hx
      obtain ⟨n0, n1, n2, n3⟩ := near_bd (lo := 1) (hi := 3000) (m := x) (by omega) b h2 h3 (by omega) (by omega) (by omega) (by omega)
      obtain ⟨f0, f1, f2, f3⟩ := flap_bd (opn := opn) (en := (k - 5) / 2) G.gtop G.gbot G.t2 G.b2 h2 h3 (show (k - 5) % 2 < 2 by omega)
      rw [getD_eq hx]
      exact ⟨by simp only [gapS]; omega, by simp only [gapS]; omega, by simp only [gapS]; omega, by simp only [gapS]; omega⟩

theorem flat_all (tab hei slo off : Int) (pan top bot : List Int) (pa ta ba : Option Addr) (pc tc bc : Nat) (opn : Bool) (G : GoodB tab hei slo pan top bot opn) (h2 : 0 ≤ off) (h3 : off ≤ 3000) (k : Nat) (hk : k < 9) (w : World) (hp : IRow w pa pan) (ht : IRow w ta top) (hb : IRow w ba bot) :
    Calls Try.prog 79 #[.agg #[.int .i64 tab, .slice pa pan.length pc, .int .i64 hei, .slice ta top.length tc, .slice ba bot.length bc, .int .i64 slo, .bool opn, .int .i64 off, .slice ta top.length tc, .slice ba bot.length bc], .int .i64 k] w fun e w' => e = .returned (.agg #[.int .i64 (flatAt off hei pan top bot opn k).lo, .int .i64 (flatAt off hei pan top bot opn k).hi]) ∧ Gr w w' := by
  obtain ⟨e0, e1⟩ := in_one G.ghei
  by_cases h4 : k < 4
  · obtain ⟨x, hx⟩ := get_of_lt (show k < pan.length by rw [G.l4]; omega)
    obtain ⟨a, b⟩ := in_at G.gpan hx
    have E : flatAt off hei pan top bot opn k = ⟨1000 * (nearL off x 1 3000).lo, 1000 * (nearL off x 1 3000).hi⟩ := by unfold flatAt; rw [if_pos h4, getD_eq hx]
    rw [E]
    exact flat_panel _ _ _ _ _ _ _ _ _ _ _ _ _ _ k x h4 hx (by omega) b h2 h3 w hp
  · by_cases h5 : k = 4
    · subst h5
      have E : flatAt off hei pan top bot opn 4 = ⟨1000 * (nearL off hei 1 3000).lo, 1000 * (nearL off hei 1 3000).hi⟩ := by unfold flatAt; rw [if_neg h4, if_pos rfl]
      rw [E]
      exact flat_height _ _ _ _ _ _ _ _ _ _ _ _ _ _ (by omega) e1 h2 h3 w
    · have E : flatAt off hei pan top bot opn k = gapS (nearL off (pan.getD (1 - (k - 5) % 2) 0) 1 3000) (flapS opn off top bot ((k - 5) / 2) ((k - 5) % 2)) := by unfold flatAt; rw [if_neg h4, if_neg h5]
      obtain ⟨x, hx⟩ := get_of_lt (show 1 - (k - 5) % 2 < pan.length by rw [G.l4]; omega)
      obtain ⟨a, b⟩ := in_at G.gpan hx
      obtain ⟨f0, f1, f2, f3⟩ := flap_bd (opn := opn) (en := (k - 5) / 2) G.gtop G.gbot G.t2 G.b2 h2 h3 (show (k - 5) % 2 < 2 by omega)
      rw [E, getD_eq hx]
      refine flat_gap _ _ _ _ _ _ _ _ _ _ _ _ _ _ (k : Int) (((k - 5) % 2 : Nat) : Int) (1 - (k - 5) % 2) x _ (by omega) (by omega) (by omega) (by omega) hx (by omega) b h2 h3 f0 f1 f2 f3 w hp ?_
      intro W hW
      obtain ⟨y, hy⟩ := get_of_lt (show (k - 5) % 2 < top.length by rw [G.t2]; omega)
      obtain ⟨z, hz⟩ := get_of_lt (show (k - 5) % 2 < bot.length by rw [G.b2]; omega)
      obtain ⟨c0, c1⟩ := in_at G.gtop hy
      obtain ⟨d0, d1⟩ := in_at G.gbot hz
      by_cases h7 : k < 7
      · rw [show ((k : Int) - 5) / 2 = 0 by omega, show (k - 5) / 2 = 0 by omega]
        cases opn with
        | true =>
          have E2 : flapS true off top bot 0 ((k - 5) % 2) = ⟨0, 0⟩ := rfl
          rw [E2]
          exact flap_open _ _ _ _ _ _ _ _ _ _ _ _ _ _ _
        | false =>
          have E2 : flapS false off top bot 0 ((k - 5) % 2) = nearL off y 0 3000 := by unfold flapS; rw [getD_eq hy]; rfl
          rw [E2]
          exact flap_top _ _ _ _ _ _ _ _ _ _ _ _ _ ((k - 5) % 2) y _ rfl hy c0 c1 h2 h3 W (ht.grow hW)
      · rw [show ((k : Int) - 5) / 2 = 1 by omega, show (k - 5) / 2 = 1 by omega]
        have E2 : flapS opn off top bot 1 ((k - 5) % 2) = nearL off z 0 3000 := by unfold flapS; rw [getD_eq hz]; rfl
        rw [E2]
        exact flap_bot _ _ _ _ _ _ _ _ _ _ _ _ _ _ ((k - 5) % 2) z _ rfl hz d0 d1 h2 h3 W (hb.grow hW)

/-- The measure of check k with calipers. -/
def innerAt (off hei : Int) (pan top bot : List Int) (opn : Bool) (cl ch : Int) (k : Nat) : Sp := insideS (flatAt off hei pan top bot opn k) (lostL k opn) cl ch

theorem inside_all (tab hei slo off : Int) (pan top bot : List Int) (pa ta ba : Option Addr) (pc tc bc : Nat) (opn : Bool) (cl ch : Int) (G : GoodB tab hei slo pan top bot opn) (h2 : 0 ≤ off) (h3 : off ≤ 3000) (c0 : 0 ≤ cl) (c1 : cl ≤ 10000) (c2 : 0 ≤ ch) (c3 : ch ≤ 10000) (k : Nat) (hk : k < 9) (w : World) (hp : IRow w pa pan) (ht : IRow w ta top) (hb : IRow w ba bot) :
    Calls Try.prog 69 #[.agg #[.int .i64 tab, .slice pa pan.length pc, .int .i64 hei, .slice ta top.length tc, .slice ba bot.length bc, .int .i64 slo, .bool opn, .int .i64 off, .slice ta top.length tc, .slice ba bot.length bc], .int .i64 k, .agg #[.int .i64 cl, .int .i64 ch]] w fun e w' => e = .returned (.agg #[.int .i64 (innerAt off hei pan top bot opn cl ch k).lo, .int .i64 (innerAt off hei pan top bot opn cl ch k).hi]) ∧ Gr w w' :=
  inside_of _ _ _ _ _ _ _ _ _ _ _ _ _ _ k cl ch _ (flat_bd G h2 h3 hk) c0 c1 c2 c3 w (fun W hW => flat_all _ _ _ _ _ _ _ _ _ _ _ _ _ _ G h2 h3 k hk W (hp.grow hW) (ht.grow hW) (hb.grow hW))

end Go.Proofs.Ytoihnilgmdcndaa

namespace Go.Proofs.Ytoihnilgmdcndaa
set_option linter.unusedVariables false
set_option linter.unusedSimpArgs false
open Go.RowKit

/-- A sheet's measures lie within limits. -/
structure ShB (hei slo : Int) (pan top bot : List Int) : Prop where
  l4 : pan.length = 4
  t2 : top.length = 2
  b2 : bot.length = 2
  gpan : inB 0 3000 pan = true
  ghei : 0 ≤ hei ∧ hei ≤ 3000
  gtop : inB 0 3000 top = true
  gbot : inB 0 3000 bot = true
  gslo : 0 ≤ slo ∧ slo ≤ 3000

theorem inB_mono {a b c d : Int} {l : List Int} (h : inB a b l = true) (h1 : c ≤ a) (h2 : b ≤ d) : inB c d l = true := by
  unfold inB at *
  rw [List.all_eq_true] at *
  intro x hx
  have := h x hx
  simp only [in1, Bool.and_eq_true, decide_eq_true_eq] at *
  omega

theorem GoodB.sh {tab hei slo : Int} {pan top bot : List Int} {opn : Bool} (G : GoodB tab hei slo pan top bot opn) : ShB hei slo pan top bot := by
  have h1 := in_one G.ghei
  have h2 := in_one G.gslo
  exact ⟨G.l4, G.t2, G.b2, inB_mono G.gpan (by omega) (by omega), ⟨by omega, by omega⟩, G.gtop, G.gbot, ⟨by omega, by omega⟩⟩

/-- The measures at which check k looks lie within limits (the others need not). -/
structure ShK (hei slo : Int) (pan top bot : List Int) (k : Nat) : Prop where
  l4 : pan.length = 4
  t2 : top.length = 2
  b2 : bot.length = 2
  gpan : k < 4 → ∀ v, pan[k]? = some v → 0 ≤ v ∧ v ≤ 3000
  gover : 5 ≤ k → k ≤ 8 → ∀ v, pan[1 - (k - 5) % 2]? = some v → 0 ≤ v ∧ v ≤ 3000
  ghei : k = 4 → 0 ≤ hei ∧ hei ≤ 3000
  gtop : 5 ≤ k → k ≤ 6 → ∀ v, top[(k - 5) % 2]? = some v → 0 ≤ v ∧ v ≤ 3000
  gbot : 7 ≤ k → k ≤ 8 → ∀ v, bot[(k - 5) % 2]? = some v → 0 ≤ v ∧ v ≤ 3000
  gslo : k = 9 → 0 ≤ slo ∧ slo ≤ 3000

theorem ShB.at {hei slo : Int} {pan top bot : List Int} (G : ShB hei slo pan top bot) (k : Nat) : ShK hei slo pan top bot k :=
  ⟨G.l4, G.t2, G.b2, fun _ _ h => in_at G.gpan h, fun _ _ _ h => in_at G.gpan h, fun _ => G.ghei, fun _ _ _ h => in_at G.gtop h, fun _ _ _ h => in_at G.gbot h, fun _ => G.gslo⟩

def flatS (off hei slo : Int) (pan top bot : List Int) (opn : Bool) (k : Nat) : Sp :=
  if k = 9 then ⟨1000 * (nearL off slo 0 20).lo, 1000 * (nearL off slo 0 20).hi⟩ else flatAt off hei pan top bot opn k

theorem flapK_bd {hei slo off : Int} {pan top bot : List Int} {opn : Bool} {k : Nat} (G : ShK hei slo pan top bot k) (h2 : 0 ≤ off) (h3 : off ≤ 3000) (h5 : 5 ≤ k) (h8 : k ≤ 8) :
    0 ≤ (flapS opn off top bot ((k - 5) / 2) ((k - 5) % 2)).lo ∧ (flapS opn off top bot ((k - 5) / 2) ((k - 5) % 2)).lo ≤ 3000 ∧ 0 ≤ (flapS opn off top bot ((k - 5) / 2) ((k - 5) % 2)).hi ∧ (flapS opn off top bot ((k - 5) / 2) ((k - 5) % 2)).hi ≤ 3000 := by
  obtain ⟨x, hx⟩ := get_of_lt (show (k - 5) % 2 < top.length by rw [G.t2]; omega)
  obtain ⟨y, hy⟩ := get_of_lt (show (k - 5) % 2 < bot.length by rw [G.b2]; omega)
  unfold flapS
  split
  · split
    · simp
    · obtain ⟨a, b⟩ := G.gtop h5 (by omega) x hx
      rw [getD_eq hx]
      exact near_bd a b h2 h3 (by omega) (by omega) (by omega) (by omega)
  · obtain ⟨a, b⟩ := G.gbot (by omega) h8 y hy
    rw [getD_eq hy]
    exact near_bd a b h2 h3 (by omega) (by omega) (by omega) (by omega)

theorem flatS_bd {hei slo off : Int} {pan top bot : List Int} {opn : Bool} {k : Nat} (G : ShK hei slo pan top bot k) (h2 : 0 ≤ off) (h3 : off ≤ 3000) (hk : k < 10) : SpB 10000000 (flatS off hei slo pan top bot opn k) := by
  unfold flatS
  split
  · rename_i h9
    obtain ⟨s0, s1⟩ := G.gslo h9
    obtain ⟨n0, n1, n2, n3⟩ := near_bd (lo := 0) (hi := 20) s0 s1 h2 h3 (by omega) (by omega) (by omega) (by omega)
    exact ⟨by simp only; omega, by simp only; omega, by simp only; omega, by simp only; omega⟩
  · unfold flatAt
    split
    · rename_i h4
      obtain ⟨x, hx⟩ := get_of_lt (show k < pan.length by rw [G.l4]; omega)
      obtain ⟨a, b⟩ := G.gpan h4 x hx
      obtain ⟨n0, n1, n2, n3⟩ := near_bd (lo := 1) (hi := 3000) a b h2 h3 (by omega) (by omega) (by omega) (by omega)
      rw [getD_eq hx]
      exact ⟨by simp only; omega, by simp only; omega, by simp only; omega, by simp only; omega⟩
    · split
      · rename_i h4
        obtain ⟨e0, e1⟩ := G.ghei h4
        obtain ⟨n0, n1, n2, n3⟩ := near_bd (lo := 1) (hi := 3000) e0 e1 h2 h3 (by omega) (by omega) (by omega) (by omega)
        exact ⟨by simp only; omega, by simp only; omega, by simp only; omega, by simp only; omega⟩
      · obtain ⟨x, hx⟩ := get_of_lt (show 1 - (k - 5) % 2 < pan.length by rw [G.l4]; omega)
        obtain ⟨a, b⟩ := G.gover (by omega) (by omega) x hx
        obtain ⟨n0, n1, n2, n3⟩ := near_bd (lo := 1) (hi := 3000) a b h2 h3 (by omega) (by omega) (by omega) (by omega)
        obtain ⟨f0, f1, f2, f3⟩ := flapK_bd (opn := opn) G h2 h3 (by omega) (by omega)
        rw [getD_eq hx]
        exact ⟨by simp only [gapS]; omega, by simp only [gapS]; omega, by simp only [gapS]; omega, by simp only [gapS]; omega⟩

set_option maxRecDepth 100000 in
set_option maxHeartbeats 1000000 in
theorem flat_slot (tab hei slo off : Int) (pan top bot : List Int) (pa ta ba : Option Addr) (pc tc bc : Nat) (opn : Bool) (h0 : 0 ≤ slo) (h1 : slo ≤ 3000) (h2 : 0 ≤ off) (h3 : off ≤ 3000) (w : World) :
    Calls Try.prog 79 #[.agg #[.int .i64 tab, .slice pa pan.length pc, .int .i64 hei, .slice ta top.length tc, .slice ba bot.length bc, .int .i64 slo, .bool opn, .int .i64 off, .slice ta top.length tc, .slice ba bot.length bc], .int .i64 9] w fun e w' => e = .returned (.agg #[.int .i64 (1000 * (nearL off slo 0 20).lo), .int .i64 (1000 * (nearL off slo 0 20).hi)]) ∧ Gr w w' := by
  have gg := (Gr.al w (.cells #[.int .i64 tab, .slice pa pan.length pc, .int .i64 hei, .slice ta top.length tc, .slice ba bot.length bc, .int .i64 slo, .bool opn, .int .i64 off, .slice ta top.length tc, .slice ba bot.length bc] 124)).tr (Gr.al _ (.cells #[.int .i64 0, .int .i64 0] 37))
  have ob := Own.new (w.alloc (.cells #[.int .i64 tab, .slice pa pan.length pc, .int .i64 hei, .slice ta top.length tc, .slice ba bot.length bc, .int .i64 slo, .bool opn, .int .i64 off, .slice ta top.length tc, .slice ba bot.length bc] 124)) [.int .i64 0, .int .i64 0] 37 (w.heap.size + 1) (by simp)
  obtain ⟨n0, n1, n2, n3⟩ := near_bd (lo := 0) (hi := 20) h0 h1 h2 h3 (by omega) (by omega) (by omega) (by omega)
  go_enter Try.func79, Try.ntmps79
  go_wp2_with fail
  refine (slot_any _ _ _ _ _ _ _ _ _ _ _ _ _ _ h0 h1 h2 h3 _).mono ?_
  rintro e w2 ⟨rfl, hx⟩
  go_wp2_with fail
  refine (times_any 1000 _ _ (by omega) (by omega) (by omega) (by omega) _).mono ?_
  rintro e w3 ⟨rfl, hy⟩
  have ob2 := ob.keep (hx.tr hy)
  obtain ⟨u0, u1⟩ := ob2.1.c2
  have z0 := ob2.2 0
  have z1 := ob2.2 1
  go_wp2
  refine bodyPost_ret (v := .agg #[.int .i64 (1000 * (nearL off slo 0 20).lo), .int .i64 (1000 * (nearL off slo 0 20).hi)]) (by simp [results, Try.results79, go_sem, u0, u1]) rfl ⟨rfl, ?_⟩
  exact ((gg.tr (hx.tr hy)).setCell (by simp) _).setCell (by simp) _

theorem flatS_all (tab hei slo off : Int) (pan top bot : List Int) (pa ta ba : Option Addr) (pc tc bc : Nat) (opn : Bool) (h2 : 0 ≤ off) (h3 : off ≤ 3000) (k : Nat) (G : ShK hei slo pan top bot k) (hk : k < 10) (w : World) (hp : IRow w pa pan) (ht : IRow w ta top) (hb : IRow w ba bot) :
    Calls Try.prog 79 #[.agg #[.int .i64 tab, .slice pa pan.length pc, .int .i64 hei, .slice ta top.length tc, .slice ba bot.length bc, .int .i64 slo, .bool opn, .int .i64 off, .slice ta top.length tc, .slice ba bot.length bc], .int .i64 k] w fun e w' => e = .returned (.agg #[.int .i64 (flatS off hei slo pan top bot opn k).lo, .int .i64 (flatS off hei slo pan top bot opn k).hi]) ∧ Gr w w' := by
  by_cases h9 : k = 9
  · subst h9
    exact flat_slot _ _ _ _ _ _ _ _ _ _ _ _ _ _ (G.gslo rfl).1 (G.gslo rfl).2 h2 h3 w
  have E9 : flatS off hei slo pan top bot opn k = flatAt off hei pan top bot opn k := by unfold flatS; rw [if_neg h9]
  rw [E9]
  by_cases h4 : k < 4
  · obtain ⟨x, hx⟩ := get_of_lt (show k < pan.length by rw [G.l4]; omega)
    obtain ⟨a, b⟩ := G.gpan h4 x hx
    have E : flatAt off hei pan top bot opn k = ⟨1000 * (nearL off x 1 3000).lo, 1000 * (nearL off x 1 3000).hi⟩ := by unfold flatAt; rw [if_pos h4, getD_eq hx]
    rw [E]
    exact flat_panel _ _ _ _ _ _ _ _ _ _ _ _ _ _ k x h4 hx a b h2 h3 w hp
  · by_cases h5 : k = 4
    · subst h5
      obtain ⟨e0, e1⟩ := G.ghei rfl
      have E : flatAt off hei pan top bot opn 4 = ⟨1000 * (nearL off hei 1 3000).lo, 1000 * (nearL off hei 1 3000).hi⟩ := by unfold flatAt; rw [if_neg h4, if_pos rfl]
      rw [E]
      exact flat_height _ _ _ _ _ _ _ _ _ _ _ _ _ _ e0 e1 h2 h3 w
    · have E : flatAt off hei pan top bot opn k = gapS (nearL off (pan.getD (1 - (k - 5) % 2) 0) 1 3000) (flapS opn off top bot ((k - 5) / 2) ((k - 5) % 2)) := by unfold flatAt; rw [if_neg h4, if_neg h5]
      obtain ⟨x, hx⟩ := get_of_lt (show 1 - (k - 5) % 2 < pan.length by rw [G.l4]; omega)
      obtain ⟨a, b⟩ := G.gover (by omega) (by omega) x hx
      obtain ⟨f0, f1, f2, f3⟩ := flapK_bd (opn := opn) G h2 h3 (by omega) (by omega)
      rw [E, getD_eq hx]
      refine flat_gap _ _ _ _ _ _ _ _ _ _ _ _ _ _ (k : Int) (((k - 5) % 2 : Nat) : Int) (1 - (k - 5) % 2) x _ (by omega) (by omega) (by omega) (by omega) hx a b h2 h3 f0 f1 f2 f3 w hp ?_
      intro W hW
      obtain ⟨y, hy⟩ := get_of_lt (show (k - 5) % 2 < top.length by rw [G.t2]; omega)
      obtain ⟨z, hz⟩ := get_of_lt (show (k - 5) % 2 < bot.length by rw [G.b2]; omega)
      by_cases h7 : k < 7
      · rw [show ((k : Int) - 5) / 2 = 0 by omega, show (k - 5) / 2 = 0 by omega]
        cases opn with
        | true =>
          have E2 : flapS true off top bot 0 ((k - 5) % 2) = ⟨0, 0⟩ := rfl
          rw [E2]
          exact flap_open _ _ _ _ _ _ _ _ _ _ _ _ _ _ _
        | false =>
          obtain ⟨c0, c1⟩ := G.gtop (by omega) (by omega) y hy
          have E2 : flapS false off top bot 0 ((k - 5) % 2) = nearL off y 0 3000 := by unfold flapS; rw [getD_eq hy]; rfl
          rw [E2]
          exact flap_top _ _ _ _ _ _ _ _ _ _ _ _ _ ((k - 5) % 2) y _ rfl hy c0 c1 h2 h3 W (ht.grow hW)
      · rw [show ((k : Int) - 5) / 2 = 1 by omega, show (k - 5) / 2 = 1 by omega]
        obtain ⟨d0, d1⟩ := G.gbot (by omega) (by omega) z hz
        have E2 : flapS opn off top bot 1 ((k - 5) % 2) = nearL off z 0 3000 := by unfold flapS; rw [getD_eq hz]; rfl
        rw [E2]
        exact flap_bot _ _ _ _ _ _ _ _ _ _ _ _ _ _ ((k - 5) % 2) z _ rfl hz d0 d1 h2 h3 W (hb.grow hW)


end Go.Proofs.Ytoihnilgmdcndaa

namespace Go.Proofs.Ytoihnilgmdcndaa
set_option linter.unusedVariables false
set_option linter.unusedSimpArgs false
open Go.RowKit

/-- A valid wish. -/
structure GoodWish (ll lh wl wh hl hh ol oh il ih : Int) : Prop where
  len : 0 ≤ ll ∧ ll ≤ lh ∧ lh ≤ 3000
  wid : 0 ≤ wl ∧ wl ≤ wh ∧ wh ≤ 3000
  hei : 0 ≤ hl ∧ hl ≤ hh ∧ hh ≤ 3000
  out : -3000 ≤ ol ∧ ol ≤ oh ∧ oh ≤ 3000
  inn : -3000 ≤ il ∧ il ≤ ih ∧ ih ≤ 3000

/-- In what the measure of a check must be. -/
def inS (ll lh wl wh hl hh ol oh il ih : Int) (k : Nat) : Sp :=
  if k = 0 ∨ k = 2 then ⟨1000 * ll, 1000 * lh⟩ else if k = 1 ∨ k = 3 then ⟨1000 * wl, 1000 * wh⟩ else if k = 4 then ⟨1000 * hl, 1000 * hh⟩ else if k = 9 then ⟨0, 20000⟩ else if (k - 5) % 2 = 0 then ⟨1000 * ol, 1000 * oh⟩ else ⟨1000 * il, 1000 * ih⟩

theorem inS_bd {ll lh wl wh hl hh ol oh il ih : Int} (G : GoodWish ll lh wl wh hl hh ol oh il ih) (k : Nat) : SpB 3000000 (inS ll lh wl wh hl hh ol oh il ih k) := by
  obtain ⟨a0, a1, a2⟩ := G.len
  obtain ⟨b0, b1, b2⟩ := G.wid
  obtain ⟨c0, c1, c2⟩ := G.hei
  obtain ⟨d0, d1, d2⟩ := G.out
  obtain ⟨e0, e1, e2⟩ := G.inn
  unfold inS
  (repeat' split) <;> exact ⟨by simp only; omega, by simp only; omega, by simp only; omega, by simp only; omega⟩


set_option maxRecDepth 100000 in
theorem in_0 (ll lh wl wh hl hh ol oh il ih : Int) (wo : Bool) (G : GoodWish ll lh wl wh hl hh ol oh il ih) (w : World) :
    Calls Try.prog 111 #[.agg #[.int .i64 ll, .int .i64 lh, .int .i64 wl, .int .i64 wh, .int .i64 hl, .int .i64 hh, .int .i64 ol, .int .i64 oh, .int .i64 il, .int .i64 ih, .bool wo], .int .i64 0] w fun e w' => e = .returned (.agg #[.int .i64 (1000 * ll), .int .i64 (1000 * lh)]) ∧ Gr w w' := by
  have gg := (Gr.al w (.cells #[.int .i64 ll, .int .i64 lh, .int .i64 wl, .int .i64 wh, .int .i64 hl, .int .i64 hh, .int .i64 ol, .int .i64 oh, .int .i64 il, .int .i64 ih, .bool wo] 133)).tr (Gr.al _ (.cells #[.int .i64 0, .int .i64 0] 37))
  have hb := (Box.new w [.int .i64 ll, .int .i64 lh, .int .i64 wl, .int .i64 wh, .int .i64 hl, .int .i64 hh, .int .i64 ol, .int .i64 oh, .int .i64 il, .int .i64 ih, .bool wo] 133 w.heap.size rfl).keep (Gr.al _ (.cells #[.int .i64 0, .int .i64 0] 37))
  have ob := Own.new (w.alloc (.cells #[.int .i64 ll, .int .i64 lh, .int .i64 wl, .int .i64 wh, .int .i64 hl, .int .i64 hh, .int .i64 ol, .int .i64 oh, .int .i64 il, .int .i64 ih, .bool wo] 133)) [.int .i64 0, .int .i64 0] 37 (w.heap.size + 1) (by simp)
  obtain ⟨a0, a1, a2⟩ := G.len
  obtain ⟨b0, b1, b2⟩ := G.wid
  obtain ⟨c0, c1, c2⟩ := G.hei
  obtain ⟨d0, d1, d2⟩ := G.out
  obtain ⟨e0, e1, e2⟩ := G.inn

  have q0 := hb.2 0 _ rfl
  have q1 := hb.2 1 _ rfl
  go_enter Try.func111, Try.ntmps111
  go_wp2_with fail
  refine (times_any 1000 ll lh (by omega) (by omega) (by omega) (by omega) _).mono ?_
  rintro e w2 ⟨rfl, hx⟩
  have ob2 := ob.keep hx
  obtain ⟨u0, u1⟩ := ob2.1.c2
  have z0 := ob2.2 0
  have z1 := ob2.2 1
  go_wp2
  refine bodyPost_ret (v := .agg #[.int .i64 (1000 * ll), .int .i64 (1000 * lh)]) (by simp [results, Try.results111, go_sem, u0, u1]) rfl ⟨rfl, ?_⟩
  exact ((gg.tr hx).setCell (by simp) _).setCell (by simp) _

set_option maxRecDepth 100000 in
theorem in_1 (ll lh wl wh hl hh ol oh il ih : Int) (wo : Bool) (G : GoodWish ll lh wl wh hl hh ol oh il ih) (w : World) :
    Calls Try.prog 111 #[.agg #[.int .i64 ll, .int .i64 lh, .int .i64 wl, .int .i64 wh, .int .i64 hl, .int .i64 hh, .int .i64 ol, .int .i64 oh, .int .i64 il, .int .i64 ih, .bool wo], .int .i64 1] w fun e w' => e = .returned (.agg #[.int .i64 (1000 * wl), .int .i64 (1000 * wh)]) ∧ Gr w w' := by
  have gg := (Gr.al w (.cells #[.int .i64 ll, .int .i64 lh, .int .i64 wl, .int .i64 wh, .int .i64 hl, .int .i64 hh, .int .i64 ol, .int .i64 oh, .int .i64 il, .int .i64 ih, .bool wo] 133)).tr (Gr.al _ (.cells #[.int .i64 0, .int .i64 0] 37))
  have hb := (Box.new w [.int .i64 ll, .int .i64 lh, .int .i64 wl, .int .i64 wh, .int .i64 hl, .int .i64 hh, .int .i64 ol, .int .i64 oh, .int .i64 il, .int .i64 ih, .bool wo] 133 w.heap.size rfl).keep (Gr.al _ (.cells #[.int .i64 0, .int .i64 0] 37))
  have ob := Own.new (w.alloc (.cells #[.int .i64 ll, .int .i64 lh, .int .i64 wl, .int .i64 wh, .int .i64 hl, .int .i64 hh, .int .i64 ol, .int .i64 oh, .int .i64 il, .int .i64 ih, .bool wo] 133)) [.int .i64 0, .int .i64 0] 37 (w.heap.size + 1) (by simp)
  obtain ⟨a0, a1, a2⟩ := G.len
  obtain ⟨b0, b1, b2⟩ := G.wid
  obtain ⟨c0, c1, c2⟩ := G.hei
  obtain ⟨d0, d1, d2⟩ := G.out
  obtain ⟨e0, e1, e2⟩ := G.inn

  have q0 := hb.2 2 _ rfl
  have q1 := hb.2 3 _ rfl
  go_enter Try.func111, Try.ntmps111
  go_wp2_with fail
  refine (times_any 1000 wl wh (by omega) (by omega) (by omega) (by omega) _).mono ?_
  rintro e w2 ⟨rfl, hx⟩
  have ob2 := ob.keep hx
  obtain ⟨u0, u1⟩ := ob2.1.c2
  have z0 := ob2.2 0
  have z1 := ob2.2 1
  go_wp2
  refine bodyPost_ret (v := .agg #[.int .i64 (1000 * wl), .int .i64 (1000 * wh)]) (by simp [results, Try.results111, go_sem, u0, u1]) rfl ⟨rfl, ?_⟩
  exact ((gg.tr hx).setCell (by simp) _).setCell (by simp) _

set_option maxRecDepth 100000 in
theorem in_2 (ll lh wl wh hl hh ol oh il ih : Int) (wo : Bool) (G : GoodWish ll lh wl wh hl hh ol oh il ih) (w : World) :
    Calls Try.prog 111 #[.agg #[.int .i64 ll, .int .i64 lh, .int .i64 wl, .int .i64 wh, .int .i64 hl, .int .i64 hh, .int .i64 ol, .int .i64 oh, .int .i64 il, .int .i64 ih, .bool wo], .int .i64 2] w fun e w' => e = .returned (.agg #[.int .i64 (1000 * ll), .int .i64 (1000 * lh)]) ∧ Gr w w' := by
  have gg := (Gr.al w (.cells #[.int .i64 ll, .int .i64 lh, .int .i64 wl, .int .i64 wh, .int .i64 hl, .int .i64 hh, .int .i64 ol, .int .i64 oh, .int .i64 il, .int .i64 ih, .bool wo] 133)).tr (Gr.al _ (.cells #[.int .i64 0, .int .i64 0] 37))
  have hb := (Box.new w [.int .i64 ll, .int .i64 lh, .int .i64 wl, .int .i64 wh, .int .i64 hl, .int .i64 hh, .int .i64 ol, .int .i64 oh, .int .i64 il, .int .i64 ih, .bool wo] 133 w.heap.size rfl).keep (Gr.al _ (.cells #[.int .i64 0, .int .i64 0] 37))
  have ob := Own.new (w.alloc (.cells #[.int .i64 ll, .int .i64 lh, .int .i64 wl, .int .i64 wh, .int .i64 hl, .int .i64 hh, .int .i64 ol, .int .i64 oh, .int .i64 il, .int .i64 ih, .bool wo] 133)) [.int .i64 0, .int .i64 0] 37 (w.heap.size + 1) (by simp)
  obtain ⟨a0, a1, a2⟩ := G.len
  obtain ⟨b0, b1, b2⟩ := G.wid
  obtain ⟨c0, c1, c2⟩ := G.hei
  obtain ⟨d0, d1, d2⟩ := G.out
  obtain ⟨e0, e1, e2⟩ := G.inn

  have q0 := hb.2 0 _ rfl
  have q1 := hb.2 1 _ rfl
  go_enter Try.func111, Try.ntmps111
  go_wp2_with fail
  refine (times_any 1000 ll lh (by omega) (by omega) (by omega) (by omega) _).mono ?_
  rintro e w2 ⟨rfl, hx⟩
  have ob2 := ob.keep hx
  obtain ⟨u0, u1⟩ := ob2.1.c2
  have z0 := ob2.2 0
  have z1 := ob2.2 1
  go_wp2
  refine bodyPost_ret (v := .agg #[.int .i64 (1000 * ll), .int .i64 (1000 * lh)]) (by simp [results, Try.results111, go_sem, u0, u1]) rfl ⟨rfl, ?_⟩
  exact ((gg.tr hx).setCell (by simp) _).setCell (by simp) _

set_option maxRecDepth 100000 in
theorem in_3 (ll lh wl wh hl hh ol oh il ih : Int) (wo : Bool) (G : GoodWish ll lh wl wh hl hh ol oh il ih) (w : World) :
    Calls Try.prog 111 #[.agg #[.int .i64 ll, .int .i64 lh, .int .i64 wl, .int .i64 wh, .int .i64 hl, .int .i64 hh, .int .i64 ol, .int .i64 oh, .int .i64 il, .int .i64 ih, .bool wo], .int .i64 3] w fun e w' => e = .returned (.agg #[.int .i64 (1000 * wl), .int .i64 (1000 * wh)]) ∧ Gr w w' := by
  have gg := (Gr.al w (.cells #[.int .i64 ll, .int .i64 lh, .int .i64 wl, .int .i64 wh, .int .i64 hl, .int .i64 hh, .int .i64 ol, .int .i64 oh, .int .i64 il, .int .i64 ih, .bool wo] 133)).tr (Gr.al _ (.cells #[.int .i64 0, .int .i64 0] 37))
  have hb := (Box.new w [.int .i64 ll, .int .i64 lh, .int .i64 wl, .int .i64 wh, .int .i64 hl, .int .i64 hh, .int .i64 ol, .int .i64 oh, .int .i64 il, .int .i64 ih, .bool wo] 133 w.heap.size rfl).keep (Gr.al _ (.cells #[.int .i64 0, .int .i64 0] 37))
  have ob := Own.new (w.alloc (.cells #[.int .i64 ll, .int .i64 lh, .int .i64 wl, .int .i64 wh, .int .i64 hl, .int .i64 hh, .int .i64 ol, .int .i64 oh, .int .i64 il, .int .i64 ih, .bool wo] 133)) [.int .i64 0, .int .i64 0] 37 (w.heap.size + 1) (by simp)
  obtain ⟨a0, a1, a2⟩ := G.len
  obtain ⟨b0, b1, b2⟩ := G.wid
  obtain ⟨c0, c1, c2⟩ := G.hei
  obtain ⟨d0, d1, d2⟩ := G.out
  obtain ⟨e0, e1, e2⟩ := G.inn

  have q0 := hb.2 2 _ rfl
  have q1 := hb.2 3 _ rfl
  go_enter Try.func111, Try.ntmps111
  go_wp2_with fail
  refine (times_any 1000 wl wh (by omega) (by omega) (by omega) (by omega) _).mono ?_
  rintro e w2 ⟨rfl, hx⟩
  have ob2 := ob.keep hx
  obtain ⟨u0, u1⟩ := ob2.1.c2
  have z0 := ob2.2 0
  have z1 := ob2.2 1
  go_wp2
  refine bodyPost_ret (v := .agg #[.int .i64 (1000 * wl), .int .i64 (1000 * wh)]) (by simp [results, Try.results111, go_sem, u0, u1]) rfl ⟨rfl, ?_⟩
  exact ((gg.tr hx).setCell (by simp) _).setCell (by simp) _

set_option maxRecDepth 100000 in
theorem in_4 (ll lh wl wh hl hh ol oh il ih : Int) (wo : Bool) (G : GoodWish ll lh wl wh hl hh ol oh il ih) (w : World) :
    Calls Try.prog 111 #[.agg #[.int .i64 ll, .int .i64 lh, .int .i64 wl, .int .i64 wh, .int .i64 hl, .int .i64 hh, .int .i64 ol, .int .i64 oh, .int .i64 il, .int .i64 ih, .bool wo], .int .i64 4] w fun e w' => e = .returned (.agg #[.int .i64 (1000 * hl), .int .i64 (1000 * hh)]) ∧ Gr w w' := by
  have gg := (Gr.al w (.cells #[.int .i64 ll, .int .i64 lh, .int .i64 wl, .int .i64 wh, .int .i64 hl, .int .i64 hh, .int .i64 ol, .int .i64 oh, .int .i64 il, .int .i64 ih, .bool wo] 133)).tr (Gr.al _ (.cells #[.int .i64 0, .int .i64 0] 37))
  have hb := (Box.new w [.int .i64 ll, .int .i64 lh, .int .i64 wl, .int .i64 wh, .int .i64 hl, .int .i64 hh, .int .i64 ol, .int .i64 oh, .int .i64 il, .int .i64 ih, .bool wo] 133 w.heap.size rfl).keep (Gr.al _ (.cells #[.int .i64 0, .int .i64 0] 37))
  have ob := Own.new (w.alloc (.cells #[.int .i64 ll, .int .i64 lh, .int .i64 wl, .int .i64 wh, .int .i64 hl, .int .i64 hh, .int .i64 ol, .int .i64 oh, .int .i64 il, .int .i64 ih, .bool wo] 133)) [.int .i64 0, .int .i64 0] 37 (w.heap.size + 1) (by simp)
  obtain ⟨a0, a1, a2⟩ := G.len
  obtain ⟨b0, b1, b2⟩ := G.wid
  obtain ⟨c0, c1, c2⟩ := G.hei
  obtain ⟨d0, d1, d2⟩ := G.out
  obtain ⟨e0, e1, e2⟩ := G.inn

  have q0 := hb.2 4 _ rfl
  have q1 := hb.2 5 _ rfl
  go_enter Try.func111, Try.ntmps111
  go_wp2_with fail
  refine (times_any 1000 hl hh (by omega) (by omega) (by omega) (by omega) _).mono ?_
  rintro e w2 ⟨rfl, hx⟩
  have ob2 := ob.keep hx
  obtain ⟨u0, u1⟩ := ob2.1.c2
  have z0 := ob2.2 0
  have z1 := ob2.2 1
  go_wp2
  refine bodyPost_ret (v := .agg #[.int .i64 (1000 * hl), .int .i64 (1000 * hh)]) (by simp [results, Try.results111, go_sem, u0, u1]) rfl ⟨rfl, ?_⟩
  exact ((gg.tr hx).setCell (by simp) _).setCell (by simp) _

set_option maxRecDepth 100000 in
theorem in_5 (ll lh wl wh hl hh ol oh il ih : Int) (wo : Bool) (G : GoodWish ll lh wl wh hl hh ol oh il ih) (w : World) :
    Calls Try.prog 111 #[.agg #[.int .i64 ll, .int .i64 lh, .int .i64 wl, .int .i64 wh, .int .i64 hl, .int .i64 hh, .int .i64 ol, .int .i64 oh, .int .i64 il, .int .i64 ih, .bool wo], .int .i64 5] w fun e w' => e = .returned (.agg #[.int .i64 (1000 * ol), .int .i64 (1000 * oh)]) ∧ Gr w w' := by
  have gg := (Gr.al w (.cells #[.int .i64 ll, .int .i64 lh, .int .i64 wl, .int .i64 wh, .int .i64 hl, .int .i64 hh, .int .i64 ol, .int .i64 oh, .int .i64 il, .int .i64 ih, .bool wo] 133)).tr (Gr.al _ (.cells #[.int .i64 0, .int .i64 0] 37))
  have hb := (Box.new w [.int .i64 ll, .int .i64 lh, .int .i64 wl, .int .i64 wh, .int .i64 hl, .int .i64 hh, .int .i64 ol, .int .i64 oh, .int .i64 il, .int .i64 ih, .bool wo] 133 w.heap.size rfl).keep (Gr.al _ (.cells #[.int .i64 0, .int .i64 0] 37))
  have ob := Own.new (w.alloc (.cells #[.int .i64 ll, .int .i64 lh, .int .i64 wl, .int .i64 wh, .int .i64 hl, .int .i64 hh, .int .i64 ol, .int .i64 oh, .int .i64 il, .int .i64 ih, .bool wo] 133)) [.int .i64 0, .int .i64 0] 37 (w.heap.size + 1) (by simp)
  obtain ⟨a0, a1, a2⟩ := G.len
  obtain ⟨b0, b1, b2⟩ := G.wid
  obtain ⟨c0, c1, c2⟩ := G.hei
  obtain ⟨d0, d1, d2⟩ := G.out
  obtain ⟨e0, e1, e2⟩ := G.inn

  have q0 := hb.2 6 _ rfl
  have q1 := hb.2 7 _ rfl
  go_enter Try.func111, Try.ntmps111
  go_wp2_with fail
  refine (gap_any 5 (by omega) (by omega) _).mono ?_
  rintro e w' ⟨rfl, rfl⟩
  go_wp2_with fail
  refine (times_any 1000 ol oh (by omega) (by omega) (by omega) (by omega) _).mono ?_
  rintro e w2 ⟨rfl, hx⟩
  have ob2 := ob.keep hx
  obtain ⟨u0, u1⟩ := ob2.1.c2
  have z0 := ob2.2 0
  have z1 := ob2.2 1
  go_wp2
  refine bodyPost_ret (v := .agg #[.int .i64 (1000 * ol), .int .i64 (1000 * oh)]) (by simp [results, Try.results111, go_sem, u0, u1]) rfl ⟨rfl, ?_⟩
  exact ((gg.tr hx).setCell (by simp) _).setCell (by simp) _

set_option maxRecDepth 100000 in
theorem in_6 (ll lh wl wh hl hh ol oh il ih : Int) (wo : Bool) (G : GoodWish ll lh wl wh hl hh ol oh il ih) (w : World) :
    Calls Try.prog 111 #[.agg #[.int .i64 ll, .int .i64 lh, .int .i64 wl, .int .i64 wh, .int .i64 hl, .int .i64 hh, .int .i64 ol, .int .i64 oh, .int .i64 il, .int .i64 ih, .bool wo], .int .i64 6] w fun e w' => e = .returned (.agg #[.int .i64 (1000 * il), .int .i64 (1000 * ih)]) ∧ Gr w w' := by
  have gg := (Gr.al w (.cells #[.int .i64 ll, .int .i64 lh, .int .i64 wl, .int .i64 wh, .int .i64 hl, .int .i64 hh, .int .i64 ol, .int .i64 oh, .int .i64 il, .int .i64 ih, .bool wo] 133)).tr (Gr.al _ (.cells #[.int .i64 0, .int .i64 0] 37))
  have hb := (Box.new w [.int .i64 ll, .int .i64 lh, .int .i64 wl, .int .i64 wh, .int .i64 hl, .int .i64 hh, .int .i64 ol, .int .i64 oh, .int .i64 il, .int .i64 ih, .bool wo] 133 w.heap.size rfl).keep (Gr.al _ (.cells #[.int .i64 0, .int .i64 0] 37))
  have ob := Own.new (w.alloc (.cells #[.int .i64 ll, .int .i64 lh, .int .i64 wl, .int .i64 wh, .int .i64 hl, .int .i64 hh, .int .i64 ol, .int .i64 oh, .int .i64 il, .int .i64 ih, .bool wo] 133)) [.int .i64 0, .int .i64 0] 37 (w.heap.size + 1) (by simp)
  obtain ⟨a0, a1, a2⟩ := G.len
  obtain ⟨b0, b1, b2⟩ := G.wid
  obtain ⟨c0, c1, c2⟩ := G.hei
  obtain ⟨d0, d1, d2⟩ := G.out
  obtain ⟨e0, e1, e2⟩ := G.inn

  have q0 := hb.2 8 _ rfl
  have q1 := hb.2 9 _ rfl
  go_enter Try.func111, Try.ntmps111
  go_wp2_with fail
  refine (gap_any 6 (by omega) (by omega) _).mono ?_
  rintro e w' ⟨rfl, rfl⟩
  go_wp2_with fail
  refine (times_any 1000 il ih (by omega) (by omega) (by omega) (by omega) _).mono ?_
  rintro e w2 ⟨rfl, hx⟩
  have ob2 := ob.keep hx
  obtain ⟨u0, u1⟩ := ob2.1.c2
  have z0 := ob2.2 0
  have z1 := ob2.2 1
  go_wp2
  refine bodyPost_ret (v := .agg #[.int .i64 (1000 * il), .int .i64 (1000 * ih)]) (by simp [results, Try.results111, go_sem, u0, u1]) rfl ⟨rfl, ?_⟩
  exact ((gg.tr hx).setCell (by simp) _).setCell (by simp) _

set_option maxRecDepth 100000 in
theorem in_7 (ll lh wl wh hl hh ol oh il ih : Int) (wo : Bool) (G : GoodWish ll lh wl wh hl hh ol oh il ih) (w : World) :
    Calls Try.prog 111 #[.agg #[.int .i64 ll, .int .i64 lh, .int .i64 wl, .int .i64 wh, .int .i64 hl, .int .i64 hh, .int .i64 ol, .int .i64 oh, .int .i64 il, .int .i64 ih, .bool wo], .int .i64 7] w fun e w' => e = .returned (.agg #[.int .i64 (1000 * ol), .int .i64 (1000 * oh)]) ∧ Gr w w' := by
  have gg := (Gr.al w (.cells #[.int .i64 ll, .int .i64 lh, .int .i64 wl, .int .i64 wh, .int .i64 hl, .int .i64 hh, .int .i64 ol, .int .i64 oh, .int .i64 il, .int .i64 ih, .bool wo] 133)).tr (Gr.al _ (.cells #[.int .i64 0, .int .i64 0] 37))
  have hb := (Box.new w [.int .i64 ll, .int .i64 lh, .int .i64 wl, .int .i64 wh, .int .i64 hl, .int .i64 hh, .int .i64 ol, .int .i64 oh, .int .i64 il, .int .i64 ih, .bool wo] 133 w.heap.size rfl).keep (Gr.al _ (.cells #[.int .i64 0, .int .i64 0] 37))
  have ob := Own.new (w.alloc (.cells #[.int .i64 ll, .int .i64 lh, .int .i64 wl, .int .i64 wh, .int .i64 hl, .int .i64 hh, .int .i64 ol, .int .i64 oh, .int .i64 il, .int .i64 ih, .bool wo] 133)) [.int .i64 0, .int .i64 0] 37 (w.heap.size + 1) (by simp)
  obtain ⟨a0, a1, a2⟩ := G.len
  obtain ⟨b0, b1, b2⟩ := G.wid
  obtain ⟨c0, c1, c2⟩ := G.hei
  obtain ⟨d0, d1, d2⟩ := G.out
  obtain ⟨e0, e1, e2⟩ := G.inn

  have q0 := hb.2 6 _ rfl
  have q1 := hb.2 7 _ rfl
  go_enter Try.func111, Try.ntmps111
  go_wp2_with fail
  refine (gap_any 7 (by omega) (by omega) _).mono ?_
  rintro e w' ⟨rfl, rfl⟩
  go_wp2_with fail
  refine (times_any 1000 ol oh (by omega) (by omega) (by omega) (by omega) _).mono ?_
  rintro e w2 ⟨rfl, hx⟩
  have ob2 := ob.keep hx
  obtain ⟨u0, u1⟩ := ob2.1.c2
  have z0 := ob2.2 0
  have z1 := ob2.2 1
  go_wp2
  refine bodyPost_ret (v := .agg #[.int .i64 (1000 * ol), .int .i64 (1000 * oh)]) (by simp [results, Try.results111, go_sem, u0, u1]) rfl ⟨rfl, ?_⟩
  exact ((gg.tr hx).setCell (by simp) _).setCell (by simp) _

set_option maxRecDepth 100000 in
theorem in_8 (ll lh wl wh hl hh ol oh il ih : Int) (wo : Bool) (G : GoodWish ll lh wl wh hl hh ol oh il ih) (w : World) :
    Calls Try.prog 111 #[.agg #[.int .i64 ll, .int .i64 lh, .int .i64 wl, .int .i64 wh, .int .i64 hl, .int .i64 hh, .int .i64 ol, .int .i64 oh, .int .i64 il, .int .i64 ih, .bool wo], .int .i64 8] w fun e w' => e = .returned (.agg #[.int .i64 (1000 * il), .int .i64 (1000 * ih)]) ∧ Gr w w' := by
  have gg := (Gr.al w (.cells #[.int .i64 ll, .int .i64 lh, .int .i64 wl, .int .i64 wh, .int .i64 hl, .int .i64 hh, .int .i64 ol, .int .i64 oh, .int .i64 il, .int .i64 ih, .bool wo] 133)).tr (Gr.al _ (.cells #[.int .i64 0, .int .i64 0] 37))
  have hb := (Box.new w [.int .i64 ll, .int .i64 lh, .int .i64 wl, .int .i64 wh, .int .i64 hl, .int .i64 hh, .int .i64 ol, .int .i64 oh, .int .i64 il, .int .i64 ih, .bool wo] 133 w.heap.size rfl).keep (Gr.al _ (.cells #[.int .i64 0, .int .i64 0] 37))
  have ob := Own.new (w.alloc (.cells #[.int .i64 ll, .int .i64 lh, .int .i64 wl, .int .i64 wh, .int .i64 hl, .int .i64 hh, .int .i64 ol, .int .i64 oh, .int .i64 il, .int .i64 ih, .bool wo] 133)) [.int .i64 0, .int .i64 0] 37 (w.heap.size + 1) (by simp)
  obtain ⟨a0, a1, a2⟩ := G.len
  obtain ⟨b0, b1, b2⟩ := G.wid
  obtain ⟨c0, c1, c2⟩ := G.hei
  obtain ⟨d0, d1, d2⟩ := G.out
  obtain ⟨e0, e1, e2⟩ := G.inn

  have q0 := hb.2 8 _ rfl
  have q1 := hb.2 9 _ rfl
  go_enter Try.func111, Try.ntmps111
  go_wp2_with fail
  refine (gap_any 8 (by omega) (by omega) _).mono ?_
  rintro e w' ⟨rfl, rfl⟩
  go_wp2_with fail
  refine (times_any 1000 il ih (by omega) (by omega) (by omega) (by omega) _).mono ?_
  rintro e w2 ⟨rfl, hx⟩
  have ob2 := ob.keep hx
  obtain ⟨u0, u1⟩ := ob2.1.c2
  have z0 := ob2.2 0
  have z1 := ob2.2 1
  go_wp2
  refine bodyPost_ret (v := .agg #[.int .i64 (1000 * il), .int .i64 (1000 * ih)]) (by simp [results, Try.results111, go_sem, u0, u1]) rfl ⟨rfl, ?_⟩
  exact ((gg.tr hx).setCell (by simp) _).setCell (by simp) _

set_option maxRecDepth 100000 in
theorem in_9 (ll lh wl wh hl hh ol oh il ih : Int) (wo : Bool) (G : GoodWish ll lh wl wh hl hh ol oh il ih) (w : World) :
    Calls Try.prog 111 #[.agg #[.int .i64 ll, .int .i64 lh, .int .i64 wl, .int .i64 wh, .int .i64 hl, .int .i64 hh, .int .i64 ol, .int .i64 oh, .int .i64 il, .int .i64 ih, .bool wo], .int .i64 9] w fun e w' => e = .returned (.agg #[.int .i64 0, .int .i64 20000]) ∧ Gr w w' := by
  have gg := (Gr.al w (.cells #[.int .i64 ll, .int .i64 lh, .int .i64 wl, .int .i64 wh, .int .i64 hl, .int .i64 hh, .int .i64 ol, .int .i64 oh, .int .i64 il, .int .i64 ih, .bool wo] 133)).tr (Gr.al _ (.cells #[.int .i64 0, .int .i64 0] 37))
  have hb := (Box.new w [.int .i64 ll, .int .i64 lh, .int .i64 wl, .int .i64 wh, .int .i64 hl, .int .i64 hh, .int .i64 ol, .int .i64 oh, .int .i64 il, .int .i64 ih, .bool wo] 133 w.heap.size rfl).keep (Gr.al _ (.cells #[.int .i64 0, .int .i64 0] 37))
  have ob := Own.new (w.alloc (.cells #[.int .i64 ll, .int .i64 lh, .int .i64 wl, .int .i64 wh, .int .i64 hl, .int .i64 hh, .int .i64 ol, .int .i64 oh, .int .i64 il, .int .i64 ih, .bool wo] 133)) [.int .i64 0, .int .i64 0] 37 (w.heap.size + 1) (by simp)
  obtain ⟨a0, a1, a2⟩ := G.len
  obtain ⟨b0, b1, b2⟩ := G.wid
  obtain ⟨c0, c1, c2⟩ := G.hei
  obtain ⟨d0, d1, d2⟩ := G.out
  obtain ⟨e0, e1, e2⟩ := G.inn

  go_enter Try.func111, Try.ntmps111
  obtain ⟨u0, u1⟩ := ob.1.c2
  have z0 := ob.2 0
  have z1 := ob.2 1
  go_wp2
  refine bodyPost_ret (v := .agg #[.int .i64 0, .int .i64 20000]) (by simp [results, Try.results111, go_sem, u0, u1]) rfl ⟨rfl, ?_⟩
  exact (Gr.al _ _).tr (Gr.al _ _)

theorem in_any (ll lh wl wh hl hh ol oh il ih : Int) (wo : Bool) (G : GoodWish ll lh wl wh hl hh ol oh il ih) (k : Nat) (hk : k < 10) (w : World) :
    Calls Try.prog 111 #[.agg #[.int .i64 ll, .int .i64 lh, .int .i64 wl, .int .i64 wh, .int .i64 hl, .int .i64 hh, .int .i64 ol, .int .i64 oh, .int .i64 il, .int .i64 ih, .bool wo], .int .i64 k] w fun e w' => e = .returned (.agg #[.int .i64 (inS ll lh wl wh hl hh ol oh il ih k).lo, .int .i64 (inS ll lh wl wh hl hh ol oh il ih k).hi]) ∧ Gr w w' := by
  have h : k = 0 ∨ k = 1 ∨ k = 2 ∨ k = 3 ∨ k = 4 ∨ k = 5 ∨ k = 6 ∨ k = 7 ∨ k = 8 ∨ k = 9 := by omega
  rcases h with rfl | rfl | rfl | rfl | rfl | rfl | rfl | rfl | rfl | rfl
  · exact in_0 ll lh wl wh hl hh ol oh il ih wo G w
  · exact in_1 ll lh wl wh hl hh ol oh il ih wo G w
  · exact in_2 ll lh wl wh hl hh ol oh il ih wo G w
  · exact in_3 ll lh wl wh hl hh ol oh il ih wo G w
  · exact in_4 ll lh wl wh hl hh ol oh il ih wo G w
  · exact in_5 ll lh wl wh hl hh ol oh il ih wo G w
  · exact in_6 ll lh wl wh hl hh ol oh il ih wo G w
  · exact in_7 ll lh wl wh hl hh ol oh il ih wo G w
  · exact in_8 ll lh wl wh hl hh ol oh il ih wo G w
  · exact in_9 ll lh wl wh hl hh ol oh il ih wo G w

end Go.Proofs.Ytoihnilgmdcndaa

namespace Go.Proofs.Ytoihnilgmdcndaa
set_option linter.unusedVariables false
set_option linter.unusedSimpArgs false
open Go.RowKit

def meet1 (s x : Sp) : Sp := ⟨max s.lo x.lo, min s.hi x.hi⟩

def meetL (s : Sp) (l : List Sp) : Sp := l.foldl meet1 s

theorem meet_take {s : Sp} {l : List Sp} {k : Nat} {x : Sp} (hx : l[k]? = some x) : meetL s (l.take (k + 1)) = meet1 (meetL s (l.take k)) x := by
  unfold meetL
  rw [List.take_add_one, hx]
  simp

set_option maxRecDepth 100000 in
set_option maxHeartbeats 1000000 in
theorem meet_any (s : Sp) (l : List Sp) (hn : l.length ≤ 10) (a : Option Addr) (cap : Nat) (w : World) (hr : SRow w a l) :
    Calls Try.prog 85 #[.agg #[.int .i64 s.lo, .int .i64 s.hi], .slice a l.length cap] w fun e w' => e = .returned (.agg #[.int .i64 (meetL s l).lo, .int .i64 (meetL s l).hi]) ∧ Gr w w' := by
  have gg := (Gr.al w (.cells #[.int .i64 s.lo, .int .i64 s.hi] 37)).tr (Gr.al _ (.cells #[.int .i64 0, .int .i64 0] 37))
  have o1 := (Own.new w [.int .i64 s.lo, .int .i64 s.hi] 37 w.heap.size rfl).keep (Gr.al _ (.cells #[.int .i64 0, .int .i64 0] 37))
  have o2 := Own.new (w.alloc (.cells #[.int .i64 s.lo, .int .i64 s.hi] 37)) [.int .i64 0, .int .i64 0] 37 (w.heap.size + 1) (by simp)
  go_enter Try.func85, Try.ntmps85
  go_wp2
  refine wp_abs (fun W => Gr w W ∧ Own W w.heap.size [.int .i64 s.lo, .int .i64 s.hi] ∧ Own W (w.heap.size + 1) [.int .i64 0, .int .i64 0]) ⟨gg, o1, o2⟩ ?_
  clear gg o1 o2
  rintro W ⟨gg, o1, o2⟩
  go_loopw [9] (fun i wr => ∃ k : Nat, k ≤ l.length ∧ i = .int .i64 k ∧ Gr w wr ∧ Own wr w.heap.size [.int .i64 (meetL s (l.take k)).lo, .int .i64 (meetL s (l.take k)).hi] ∧ Own wr (w.heap.size + 1) [.int .i64 0, .int .i64 0]) (fun i wr => l.length - (intOf i).toNat)
  case atStart => exact ⟨0, Nat.zero_le _, rfl, gg, o1, o2⟩
  case round =>
    clear gg o1 o2
    obtain ⟨k, hk, rfl, gg, o1, o2⟩ := hrel
    by_cases hlt : k < l.length
    · obtain ⟨x, hx⟩ := get_of_lt hlt
      obtain ⟨b0, off, rfl, hb, hc0, hc1⟩ := SRow.get (hr.grow gg) hx
      have et := meet_take (s := s) hx
      have Et := Lib.hid et
      clear et hx
      generalize meetL s (l.take k) = c at *
      obtain ⟨cl, ch⟩ := c
      obtain ⟨xl, xh⟩ := x
      simp only [meet1] at hc0 hc1
      have gn := Gr.al wr (.cells #[.int .i64 xl, .int .i64 xh] 37)
      have p1 := o1.keep gn
      have p2 := o2.keep gn
      have p3 := Own.new wr [.int .i64 xl, .int .i64 xh] 37 wr.heap.size rfl
      have hne : wr.heap.size ≠ w.heap.size := by have := o2.1.1; omega
      obtain ⟨q0, q1⟩ := p1.1.c2
      have z0 := p1.2 0
      have z1 := p1.2 1
      obtain ⟨r0, r1⟩ := p3.1.c2
      have HN := Lib.hid hne
      have g3 := gg.tr gn
      go_wp2
      go_roundw
      case rel =>
        refine ⟨k + 1, by omega, by go_num, (g3.setCell (by simp) _).setCell (by simp) _, ?_, (p2.other (by omega)).other (by omega)⟩
        rw [Et.out]
        exact (p1.set (i := 0) (by simp)).set (i := 1) (by simp)
      case measure => simp [intOf]; omega
    · obtain rfl : k = l.length := by omega
      rw [List.take_length] at o1
      obtain ⟨q0, q1⟩ := o1.1.c2
      obtain ⟨r0, r1⟩ := o2.1.c2
      have z0 := o2.2 0
      have z1 := o2.2 1
      go_wp2
      refine bodyPost_ret (v := .agg #[.int .i64 (meetL s l).lo, .int .i64 (meetL s l).hi]) (by simp [results, Try.results85, go_sem, r0, r1]) rfl ⟨rfl, ?_⟩
      exact (gg.setCell (by simp) _).setCell (by simp) _

theorem meet_one (s : Sp) (c d : Int) (ad : Option Addr) (cap : Nat) (w : World) (hr : SRow w ad [⟨c, d⟩]) :
    Calls Try.prog 85 #[.agg #[.int .i64 s.lo, .int .i64 s.hi], .slice ad 1 cap] w fun e w' => e = .returned (.agg #[.int .i64 (max s.lo c), .int .i64 (min s.hi d)]) ∧ Gr w w' :=
  meet_any s [⟨c, d⟩] (by simp) ad cap w hr

/-- The first number of a span that is not in another one. -/
def outN (sl sh ol oh : Int) : Int := if sl < ol ∨ oh < sl then sl else if oh < sh then oh + 1 else 0

def outB (sl sh ol oh : Int) : Bool := decide (sl < ol) || decide (oh < sl) || decide (oh < sh)

set_option maxHeartbeats 1000000 in
theorem outside_any (sl sh ol oh : Int) (h0 : -1000000000 ≤ oh) (h1 : oh ≤ 1000000000) (w : World) :
    Calls Try.prog 83 #[.agg #[.int .i64 sl, .int .i64 sh], .agg #[.int .i64 ol, .int .i64 oh]] w fun e w' => e = .returned (.tuple #[.int .i64 (outN sl sh ol oh), .bool (outB sl sh ol oh)]) ∧ Gr w w' := by
  have gg := (Gr.al w (.cells #[.int .i64 sl, .int .i64 sh] 37)).tr (Gr.al _ (.cells #[.int .i64 ol, .int .i64 oh] 37))
  have hb := (Box.new w [.int .i64 sl, .int .i64 sh] 37 w.heap.size rfl).keep (Gr.al _ (.cells #[.int .i64 ol, .int .i64 oh] 37))
  have hc := Box.new (w.alloc (.cells #[.int .i64 sl, .int .i64 sh] 37)) [.int .i64 ol, .int .i64 oh] 37 (w.heap.size + 1) (by simp)
  obtain ⟨q0, q1⟩ := hb.c2
  obtain ⟨q2, q3⟩ := hc.c2
  by_cases c0 : sl < ol
  · have E : outN sl sh ol oh = sl ∧ outB sl sh ol oh = true := by simp [outN, outB, c0]
    rw [E.1, E.2]
    clear E
    have d0 : decide (sl < ol) = true := by simpa using c0
    go_enter Try.func83, Try.ntmps83
    go_wp2
    go_ret2
    exact ⟨rfl, gg⟩
  · have d0 : decide (sl < ol) = false := by simpa using c0
    by_cases c1 : oh < sl
    · have E : outN sl sh ol oh = sl ∧ outB sl sh ol oh = true := by simp [outN, outB, c1]
      rw [E.1, E.2]
      clear E
      have d1 : decide (oh < sl) = true := by simpa using c1
      go_enter Try.func83, Try.ntmps83
      go_wp2
      go_ret2
      exact ⟨rfl, gg⟩
    · have d1 : decide (oh < sl) = false := by simpa using c1
      by_cases c2 : oh < sh
      · have E : outN sl sh ol oh = oh + 1 ∧ outB sl sh ol oh = true := by simp [outN, outB, c0, c1, c2]
        rw [E.1, E.2]
        clear E
        have d2 : decide (oh < sh) = true := by simpa using c2
        go_enter Try.func83, Try.ntmps83
        go_wp2
        go_ret2
        exact ⟨rfl, gg⟩
      · have E : outN sl sh ol oh = 0 ∧ outB sl sh ol oh = false := by simp [outN, outB, c0, c1, c2]
        rw [E.1, E.2]
        clear E
        have d2 : decide (oh < sh) = false := by simpa using c2
        go_enter Try.func83, Try.ntmps83
        go_wp2
        go_ret2
        exact ⟨rfl, gg⟩

end Go.Proofs.Ytoihnilgmdcndaa

namespace Go.Proofs.Ytoihnilgmdcndaa
set_option linter.unusedVariables false
set_option linter.unusedSimpArgs false
open Go.RowKit

section
variable {P : Program} {ops : Array Oper} {Q : Exit → Act → World → Prop} {md : Region.Mode} {S : World → Prop}

/-- So many operations come up, all of them before number n, in whatever order; behind each S holds, behind the last one L. -/
def wpHead (P : Program) (md : Region.Mode) (ops : Array Oper) (Q : Exit → Act → World → Prop) (S : World → Prop) (n : Nat) (L : Array Bool → Act → World → Prop) : Nat → Array Bool → Act → World → Prop
  | 0, listed, a, w => L listed a w
  | f + 1, listed, a, w => Region.ready md ops listed ≠ [] ∧ ∀ i ∈ Region.ready md ops listed, i < n ∧ wpOp P ops Q i (fun a' w' => S w' ∧ wpHead P md ops Q S n L f (listed.setIfInBounds i true) a' w') a w

theorem wpAny_of_wpHead {n g : Nat} {L : Array Bool → Act → World → Prop} (hL : ∀ listed a w, L listed a w → wpAny P md ops Q g listed a w) :
    ∀ (f : Nat) (listed : Array Bool) (a : Act) (w : World), wpHead P md ops Q S n L f listed a w → wpAny P md ops Q (f + g) listed a w
  | 0, _, _, _, h => by rw [Nat.zero_add]; exact hL _ _ _ h
  | f + 1, _, _, _, h => by
    rw [show f + 1 + g = (f + g) + 1 by omega]
    exact ⟨fun h0 => absurd h0 h.1, fun i hi => wpOp_mono (fun a' w' h' => wpAny_of_wpHead hL f _ a' w' h'.2) (h.2 i hi).2⟩

theorem wpHead_first {n i : Nat} {oi : Oper} {v : Value} {L : Array Bool → Act → World → Prop} (hi : ops[i]? = some oi) (hsel : ∀ (j : Nat) (o : Oper) cs b, ops[j]? = some o → o.op ≠ .select cs b)
    (hs : Region.sinkB md ops n = true) (hc : Region.chainB md ops n = true) (hn : n < ops.size) (hin : i < n) (hQ : ∀ c a w, Q (.panic c) (a.put oi.dst v) w → Q (.panic c) a w)
    (hdone : ∀ listed a w, L listed a w → ∀ j ∈ Region.ready md ops listed, n ≤ j) :
    ∀ (f : Nat) (listed : Array Bool) (a : Act) (w : World), HeadInv md ops n listed →
      (∀ j oj, ops[j]? = some oj → j ≠ i → listed.getD j true = false → (∀ e ∈ oj.after, Region.binds md e = true → e.on ≠ i) → oi.apart ops oj = true) →
      i ∈ Region.ready md ops listed → YieldsIf P ops S oi v a → S w →
      wpHead P md ops Q S n L f (listed.setIfInBounds i true) (a.put oi.dst v) w → wpHead P md ops Q S n L (f + 1) listed a w := by
  intro f
  induction f with
  | zero =>
    intro listed a w inv _ hr hy hS H
    have hun := (mem_ready.1 hr).1
    refine ⟨fun h => (by rw [h] at hr; cases hr), fun j hj => ?_⟩
    have hjn : j < n := by
      rcases Nat.lt_or_ge j n with h | h
      · exact h
      · exact absurd hj (tail_waits hs hc hn inv _ i rfl hin hun j h)
    refine ⟨hjn, ?_⟩
    by_cases hji : j = i
    · subst hji; exact hy.wpOp hi hS ⟨hS, H⟩
    · have := hdone _ _ _ H j (ready_mono hj hji)
      omega
  | succ f ih =>
    intro listed a w inv hfree hr hy hS H
    have hun := (mem_ready.1 hr).1
    refine ⟨fun h => (by rw [h] at hr; cases hr), fun j hj => ?_⟩
    have hjn : j < n := by
      rcases Nat.lt_or_ge j n with h | h
      · exact h
      · exact absurd hj (tail_waits hs hc hn inv _ i rfl hin hun j h)
    refine ⟨hjn, ?_⟩
    by_cases hji : j = i
    · subst hji; exact hy.wpOp hi hS ⟨hS, H⟩
    · have h1 := (H.2 j (ready_mono hj hji)).2
      obtain ⟨hjun, oj, hoj, hall⟩ := mem_ready.1 hj
      have hnot : ∀ e ∈ oj.after, Region.binds md e = true → e.on ≠ i := fun e he hb heq => by
        have h1 := hall e he hb
        rw [heq, getD_both hun] at h1
        cases h1
      have h2 := wpOp_putIf hoj (hfree j oj hoj hji hjun hnot) (fun cs b => hsel i oi cs b hi) (fun cs b => hsel j oj cs b hoj) hQ hy h1
      have hfree' : ∀ k ok, ops[k]? = some ok → k ≠ i → (listed.setIfInBounds j true).getD k true = false →
          (∀ e ∈ ok.after, Region.binds md e = true → e.on ≠ i) → oi.apart ops ok = true := fun k ok hk hki hun hno => by
        refine hfree k ok hk hki ?_ hno
        by_cases hjk : j = k
        · subst hjk; exact hjun
        · rw [getD_set_ne true hjk] at hun; exact hun
      refine wpOp_mono (fun a' w' h3 => ⟨h3.2.1, ih (listed.setIfInBounds j true) a' w' (inv.set hj hjn) hfree' (ready_mono hr (Ne.symm hji)) h3.1 h3.2.1 ?_⟩) h2
      rw [Array.setIfInBounds_comm _ _ hji]
      exact h3.2.2

/-- The walk in an order of ours: (i, true): a read; (i, false): all else. -/
def wpOrd (P : Program) (ops : Array Oper) (Q : Exit → Act → World → Prop) (S : World → Prop) (L : Act → World → Prop) : List (Nat × Bool) → Act → World → Prop
  | [], a, w => L a w
  | (i, true) :: r, a, w => ∃ o v, ops[i]? = some o ∧ YieldsIf P ops S o v a ∧ (∀ c a w, Q (.panic c) (a.put o.dst v) w → Q (.panic c) a w) ∧ wpOrd P ops Q S L r (a.put o.dst v) w
  | (i, false) :: r, a, w => wpOp P ops Q i (fun a' w' => S w' ∧ wpOrd P ops Q S L r a' w') a w

def ordB (md : Region.Mode) (ops : Array Oper) (n : Nat) : List (Nat × Bool) → Array Bool → Bool
  | [], listed => Region.seqB md ops (ops.size - n) n listed
  | (i, true) :: r, listed => decide (i < n) && (Region.ready md ops listed).contains i && Region.free md ops listed i && ordB md ops n r (listed.setIfInBounds i true)
  | (i, false) :: r, listed => decide (i < n) && decide (Region.ready md ops listed = [i]) && ordB md ops n r (listed.setIfInBounds i true)

theorem wpHead_ord {n : Nat} {L : Act → World → Prop} (hsel : Region.noSelect ops = true) (hs : Region.sinkB md ops n = true) (hc : Region.chainB md ops n = true) (hn : n < ops.size) :
    ∀ (l : List (Nat × Bool)) (listed : Array Bool) (a : Act) (w : World), HeadInv md ops n listed → ordB md ops n l listed = true → S w → wpOrd P ops Q S L l a w →
    wpHead P md ops Q S n (fun listed' a' w' => Region.seqB md ops (ops.size - n) n listed' = true ∧ L a' w') l.length listed a w
  | [], _, _, _, _, hB, _, h => ⟨hB, h⟩
  | (i, true) :: r, listed, a, w, inv, hB, hS, h => by
    simp only [ordB, Bool.and_eq_true, decide_eq_true_eq] at hB
    obtain ⟨⟨⟨hin, hr⟩, hf⟩, hB'⟩ := hB
    obtain ⟨o, v, ho, hy, hQ, hK⟩ := h
    have hr' : i ∈ Region.ready md ops listed := by simpa using hr
    exact wpHead_first ho (Region.noSelect_spec hsel) hs hc hn hin hQ (fun listed' a' w' hL => seqB_ready hL.1) r.length listed a w inv (Region.free_spec ho hf) hr' hy hS
      (wpHead_ord hsel hs hc hn r _ _ w (inv.set hr' hin) hB' hS hK)
  | (i, false) :: r, listed, a, w, inv, hB, hS, h => by
    simp only [ordB, Bool.and_eq_true, decide_eq_true_eq] at hB
    obtain ⟨⟨hin, hr⟩, hB'⟩ := hB
    refine ⟨by rw [hr]; simp, fun j hj => ?_⟩
    have hj' : j = i := by rw [hr] at hj; simpa using hj
    subst hj'
    exact ⟨hin, wpOp_mono (fun a' w' h' => ⟨h'.1, wpHead_ord hsel hs hc hn r _ a' w' (inv.set hj hin) hB' h'.1 h'.2⟩) h⟩

theorem wp_region_ord {id : Nat} {a : Act} {w : World} {l : List Oper} (S : World → Prop) (n : Nat) (ord : List (Nat × Bool)) (hm : P.follows .mixedOrders = true)
    (hB : (Region.noSelect l.toArray && decide (n < l.toArray.size) && Region.sinkB .any l.toArray n && Region.chainB .any l.toArray n && decide (ord.length = n) && ordB .any l.toArray n ord (Array.replicate l.toArray.size false)) = true)
    (hS : S w.drew) (h : wpOrd P l.toArray Q S (fun a' w' => wpList P l.toArray Q (l.drop n) a' w') ord a w.drew) : (Code.region id l.toArray true).wp P Q a w := by
  simp only [Bool.and_eq_true, decide_eq_true_eq] at hB
  obtain ⟨⟨⟨⟨⟨hsel, hn⟩, hs⟩, hc⟩, hlen⟩, hord⟩ := hB
  have hn' : n < l.length := by simpa using hn
  have hdl : (l.drop n).length = l.toArray.size - n := by simp
  have inv0 : HeadInv .any l.toArray n (Array.replicate l.toArray.size false) :=
    ⟨by simp, fun j oj _ hl => (by rw [getD_replicate_false] at hl; cases hl), fun t _ ht => getD_in (by simpa using ht) (getD_replicate_false _ _)⟩
  have H := wpHead_ord (md := .any) (Q := Q) (S := S) hsel hs hc hn ord _ a w.drew inv0 hord hS h
  refine wp_region_any hm ?_
  have := wpAny_of_wpHead (g := l.toArray.size - n) (fun listed a' w' hL => by
    have := wpAny_of_seq (md := .any) (Q' := Q) (l.drop n) n listed a' w' (fun j => by simp [List.getElem?_drop]) (by rw [hdl]; exact hL.1) hL.2
    rwa [hdl] at this) _ _ _ _ H
  rw [hlen, show n + (l.toArray.size - n) = l.toArray.size by omega] at this
  exact this

end

end Go.Proofs.Ytoihnilgmdcndaa

namespace Go.Proofs.Ytoihnilgmdcndaa
set_option linter.unusedVariables false
set_option linter.unusedSimpArgs false
open Go.RowKit

section
variable {P : Program} {ops : Array Oper} {Q : Exit → Act → World → Prop} {md : Region.Mode}

/-- How many of the first operations have not come up. -/
def remN (listed : Array Bool) : Nat → Nat
  | 0 => 0
  | k + 1 => remN listed k + if listed.getD k true = false then 1 else 0

theorem getD_set_eq (listed : Array Bool) {i : Nat} (h : listed.getD i true = false) : (listed.setIfInBounds i true).getD i true = true := by
  have hi : i < listed.size := by
    rcases Nat.lt_or_ge i listed.size with h' | h'
    · exact h'
    · simp [Array.getElem?_eq_none h'] at h
  simp [hi]

theorem remN_past (listed : Array Bool) (i : Nat) : ∀ k, k ≤ i → remN (listed.setIfInBounds i true) k = remN listed k
  | 0, _ => rfl
  | k + 1, h => by
    unfold remN
    rw [remN_past listed i k (by omega), getD_set_ne true (show i ≠ k by omega)]

theorem remN_set (listed : Array Bool) {i : Nat} (hi : listed.getD i true = false) : ∀ k, i < k → remN (listed.setIfInBounds i true) k + 1 = remN listed k
  | 0, h => by omega
  | k + 1, h => by
    unfold remN
    by_cases e : i = k
    · subst e
      rw [remN_past listed i i (Nat.le_refl _), getD_set_eq listed hi, hi]
      simp
    · have := remN_set listed hi k (by omega)
      rw [getD_set_ne true (show i ≠ k from e)]
      omega

theorem remN_zero {listed : Array Bool} : ∀ k, remN listed k = 0 → ∀ j, j < k → listed.getD j true = true
  | 0, _, j, h => by omega
  | k + 1, h0, j, hj => by
    unfold remN at h0
    by_cases e : j = k
    · subst e
      cases h : listed.getD j true with
      | true => rfl
      | false => simp [h] at h0
    · exact remN_zero k (by omega) j (by omega)

theorem remN_full (s : Nat) : ∀ k, k ≤ s → remN (Array.replicate s false) k = k
  | 0, _ => rfl
  | k + 1, h => by
    unfold remN
    rw [remN_full s k (by omega), if_pos (getD_in (by simp only [Array.size_replicate]; omega) (getD_replicate_false _ _))]

theorem first_unlisted (listed : Array Bool) : ∀ m, (∀ j, j < m → listed.getD j true = true) ∨ ∃ i, i < m ∧ listed.getD i true = false ∧ ∀ j, j < i → listed.getD j true = true
  | 0 => .inl (fun j h => by omega)
  | m + 1 => by
    rcases first_unlisted listed m with h | ⟨i, hi, h0, h1⟩
    · cases e : listed.getD m true with
      | true => exact .inl (fun j hj => by
          by_cases ej : j = m
          · subst ej; exact e
          · exact h j (by omega))
      | false => exact .inr ⟨m, by omega, e, h⟩
    · exact .inr ⟨i, by omega, h0, h1⟩

/-- Each of the first n operations waits only for ones before it. -/
def minB (md : Region.Mode) (ops : Array Oper) (n : Nat) : Bool :=
  (List.range n).all fun i => match ops[i]? with
    | none => true
    | some o => o.after.all fun e => !(Region.binds md e) || decide (e.on < i)

theorem minB_spec {n : Nat} (h : minB md ops n = true) {i : Nat} {o : Oper} (hi : i < n) (ho : ops[i]? = some o) {e} (he : e ∈ o.after) (hb : Region.binds md e = true) : e.on < i := by
  have := List.all_eq_true.1 h i (by simpa using hi)
  rw [ho] at this
  simp only [Array.all_eq_true'] at this
  have := this e he
  simpa [hb] using this

theorem wpAny_inv {n g : Nat} (hs : Region.sinkB md ops n = true) (hc : Region.chainB md ops n = true) (hn : n < ops.size) (hm : minB md ops n = true) (J : Array Bool → Act → World → Prop)
    (hstep : ∀ i o, i < n → ops[i]? = some o → ∀ listed a w, listed.size = ops.size → listed.getD i true = false → (∀ e ∈ o.after, Region.binds md e = true → listed.getD e.on false = true) → J listed a w → wpOp P ops Q i (fun a' w' => J (listed.setIfInBounds i true) a' w') a w)
    (hend : ∀ listed a w, HeadInv md ops n listed → (∀ j, j < n → listed.getD j true = true) → J listed a w → wpAny P md ops Q g listed a w) :
    ∀ (f : Nat) (listed : Array Bool) (a : Act) (w : World), HeadInv md ops n listed → remN listed n = f → J listed a w → wpAny P md ops Q (f + g) listed a w
  | 0, listed, a, w, inv, hf, hJ => by
    rw [Nat.zero_add]
    exact hend listed a w inv (remN_zero n hf) hJ
  | f + 1, listed, a, w, inv, hf, hJ => by
    rcases first_unlisted listed n with h | ⟨i, hi, h0, h1⟩
    · have : remN listed n = 0 := by
        clear hf inv hJ hend hstep hs hc hn hm
        induction n with
        | zero => rfl
        | succ k ih =>
          unfold remN
          rw [ih (fun j hj => h j (by omega)), h k (by omega)]
          simp
      omega
    · have hlt : i < ops.size := by omega
      have hready : i ∈ Region.ready md ops listed := by
        refine mem_ready.2 ⟨h0, ops[i], Array.getElem?_eq_getElem hlt, fun e he hb => ?_⟩
        have hlt' := minB_spec hm hi (Array.getElem?_eq_getElem hlt) he hb
        have h2 := h1 e.on hlt'
        have : e.on < listed.size := by rw [inv.size]; omega
        simp [this] at h2 ⊢
        exact h2
      rw [show f + 1 + g = (f + g) + 1 by omega]
      refine ⟨fun hnil => (by rw [hnil] at hready; cases hready), fun j hj => ?_⟩
      have hjn : j < n := by
        rcases Nat.lt_or_ge j n with h | h
        · exact h
        · exact absurd hj (tail_waits hs hc hn inv _ i rfl hi h0 j h)
      obtain ⟨hj0, o, ho, hdep⟩ := mem_ready.1 hj
      refine wpOp_mono (fun a' w' h' => ?_) (hstep j o hjn ho listed a w inv.size hj0 hdep hJ)
      exact wpAny_inv hs hc hn hm J hstep hend f _ a' w' (inv.set hj hjn) (by have := remN_set listed hj0 n hjn; omega) h'

/-- So many of its waits, told as pairs. -/
def depB (md : Region.Mode) (ops : Array Oper) (ds : List (Nat × Nat)) : Bool :=
  ds.all fun p => match ops[p.1]? with
    | none => false
    | some o => o.after.any fun e => Region.binds md e && decide (e.on = p.2)

theorem depB_spec {ds : List (Nat × Nat)} (h : depB md ops ds = true) {i j : Nat} (hij : (i, j) ∈ ds) {o : Oper} (ho : ops[i]? = some o) : ∃ e ∈ o.after, Region.binds md e = true ∧ e.on = j := by
  have := List.all_eq_true.1 h _ hij
  simp only [ho] at this
  obtain ⟨e, he, hh⟩ := Array.any_eq_true'.1 this
  simp only [Bool.and_eq_true, decide_eq_true_eq] at hh
  exact ⟨e, he, hh.1, hh.2⟩

theorem wp_region_inv {id : Nat} {a : Act} {w : World} {l : List Oper} (n : Nat) (J : Array Bool → Act → World → Prop) (hm : P.follows .mixedOrders = true)
    (hB : (decide (n < l.toArray.size) && Region.sinkB .any l.toArray n && Region.chainB .any l.toArray n && minB .any l.toArray n && Region.seqB .any l.toArray (l.toArray.size - n) n (Array.replicate n true ++ Array.replicate (l.toArray.size - n) false)) = true)
    (hJ : J (Array.replicate l.toArray.size false) a w.drew)
    (hstep : ∀ i o, i < n → l.toArray[i]? = some o → ∀ listed a w, listed.size = l.toArray.size → listed.getD i true = false → (∀ e ∈ o.after, Region.binds .any e = true → listed.getD e.on false = true) → J listed a w → wpOp P l.toArray Q i (fun a' w' => J (listed.setIfInBounds i true) a' w') a w)
    (hend : ∀ listed a w, listed.size = l.toArray.size → (∀ j, j < n → listed.getD j true = true) → J listed a w → wpList P l.toArray Q (l.drop n) a w) : (Code.region id l.toArray true).wp P Q a w := by
  simp only [Bool.and_eq_true, decide_eq_true_eq] at hB
  obtain ⟨⟨⟨⟨hn, hs⟩, hc⟩, hmin⟩, hseq⟩ := hB
  have hn' : n < l.length := by simpa using hn
  have hdl : (l.drop n).length = l.toArray.size - n := by simp
  have inv0 : HeadInv .any l.toArray n (Array.replicate l.toArray.size false) :=
    ⟨by simp, fun j oj _ hl => (by rw [getD_replicate_false] at hl; cases hl), fun t _ ht => getD_in (by simpa using ht) (getD_replicate_false _ _)⟩
  refine wp_region_any hm ?_
  have := wpAny_inv (md := .any) (g := l.toArray.size - n) (Q := Q) hs hc hn hmin J hstep (fun listed a' w' inv hall hJ' => by
    have e : listed = Array.replicate n true ++ Array.replicate (l.toArray.size - n) false := by
      apply Array.ext
      · rw [inv.size]; simp; omega
      · intro j h1 h2
        rcases Nat.lt_or_ge j n with h | h
        · have := hall j h
          simp [h1] at this
          rw [this, Array.getElem_append_left (by simpa using h)]
          simp
        · have := inv.tail j h (by rw [inv.size] at h1; exact h1)
          simp [h1] at this
          rw [this, Array.getElem_append_right (by simpa using h)]
          simp
    have h := wpAny_of_seq (md := .any) (Q' := Q) (l.drop n) n listed a' w' (fun j => by simp [List.getElem?_drop]) (by rw [hdl, e]; exact hseq) (hend listed a' w' inv.size hall hJ')
    rwa [hdl] at h) n (Array.replicate l.toArray.size false) a w.drew inv0 (remN_full _ n (by omega)) hJ
  rw [show n + (l.toArray.size - n) = l.toArray.size by omega] at this
  exact this

end

end Go.Proofs.Ytoihnilgmdcndaa

namespace Go.Proofs.Ytoihnilgmdcndaa
set_option linter.unusedVariables false
set_option linter.unusedSimpArgs false
open Go.RowKit

def goodP (p : Paper) : Bool :=
 (p.kind == 1 || p.kind == 2) && inB 1 1000 [p.weight] && okSpan 1 1000 p.tlo p.thi && okSpan 0 200 p.mlo p.mhi && inB 0 1000000 [p.price] && inB 0 10000 [p.strong]

def goodF (f : Flute) : Bool := inB 1000 10000 [f.pitch] && inB f.pitch (2 * f.pitch) [f.draw] && okSpan 1 10000 f.hlo f.hhi

end Go.Proofs.Ytoihnilgmdcndaa

namespace Go.Proofs.Ytoihnilgmdcndaa
set_option linter.unusedVariables false
set_option linter.unusedSimpArgs false
open Go.RowKit

end Go.Proofs.Ytoihnilgmdcndaa

namespace Go.Proofs.Ytoihnilgmdcndaa
set_option linter.unusedVariables false
set_option linter.unusedSimpArgs false
open Go.RowKit

def kindL (n : Int) : Int := if n % 2 = 0 then 1 else 2

end Go.Proofs.Ytoihnilgmdcndaa

namespace Go.Proofs.Ytoihnilgmdcndaa
set_option linter.unusedVariables false
set_option linter.unusedSimpArgs false
open Go.RowKit

theorem Gr.drewN {w w' : World} (h : Gr w w') (n : Nat) : Gr w (w'.drewN n) := below_drewN h n

end Go.Proofs.Ytoihnilgmdcndaa

namespace Go.Proofs.Ytoihnilgmdcndaa
set_option linter.unusedVariables false
set_option linter.unusedSimpArgs false
open Go.RowKit

end Go.Proofs.Ytoihnilgmdcndaa

namespace Go.Proofs.Ytoihnilgmdcndaa
set_option linter.unusedVariables false
set_option linter.unusedSimpArgs false
open Go.RowKit

theorem key3 : Maps.Keyed Try.prog 3 := Maps.int_keyed Try.underlying3

/-- Block b is a map of at most n entries in which each number x leads to f x (0 where x is not in it). -/
def MapIs (w : World) (b n : Nat) (f : Int → Int) : Prop :=
  ∃ D : DataW Unit, Maps.IsMap D ∧ w.ownsMap Try.prog 3 (plainElem Try.prog 3) b n D ∧ ∀ x : Int, D.atKey (.int .i64 x) (.lit (.int .i64 0)) = .lit (.int .i64 (f x))

theorem MapIs.lt {w : World} {b n : Nat} {f : Int → Int} (h : MapIs w b n f) : b < w.heap.size := by
  obtain ⟨D, _, h, _⟩ := h
  exact h.lt

theorem MapIs.keep {w w' : World} {b n : Nat} {f : Int → Int} (h : MapIs w b n f) (g : Gr w w') : MapIs w' b n f := by
  have hlt := h.lt
  obtain ⟨D, hD, ⟨es, clock, hb, F, hs, hd⟩, ha⟩ := h
  exact ⟨D, hD, ⟨es, clock, (g.block b hlt).trans hb, F, hs, hd⟩, ha⟩

theorem MapIs.made (w : World) : MapIs (w.alloc (.map #[] 0)) w.heap.size 0 (fun _ => 0) :=
  ⟨.map [], ⟨[], rfl⟩, World.ownsMap_made _ _ _ _, fun _ => rfl⟩

theorem MapIs.put {w : World} {b n : Nat} {f : Int → Int} (h : MapIs w b n f) (hn : n < 1000) (x v : Int) (hx : (Lit.int .i64 x).wf = true) (hv : (Lit.int .i64 v).wf = true) :
    ∃ w', (Instr.mapUpdate 156 (.map (some b)) (.int .i64 x) (.int .i64 v)).run Try.prog w = .ok () w' ∧ MapIs w' b (n + 1) (fun y => if y = x then v else f y) ∧ w.grownBy w' (some b) := by
  obtain ⟨D, hD, ho, ha⟩ := h
  obtain ⟨w', hrun, ho', hg⟩ := ho.update (val := .int .i64 v) (d := .lit (.int .i64 v)) (ps := []) key3 Try.underlying156 (by unfold maxLen; omega) (Maps.keyOf_int_mk Try.underlying3 hx) (plainElem_int Try.underlying3 hv)
  refine ⟨w', hrun, ⟨_, hD.put _ _, ho', fun y => ?_⟩, hg⟩
  by_cases h : y = x
  · subst h
    rw [Maps.atKey_put_same hD (by trivial)]
    show _ = DataW.lit (.int .i64 (if y = y then v else f y))
    rw [if_pos rfl]
  · rw [Maps.atKey_put_other (by intro e; injection e with _ e; exact h e), ha y]
    show _ = DataW.lit (.int .i64 (if y = x then v else f y))
    rw [if_neg h]

end Go.Proofs.Ytoihnilgmdcndaa

namespace Go.Proofs.Ytoihnilgmdcndaa
set_option linter.unusedVariables false
set_option linter.unusedSimpArgs false
open Go.RowKit

/-- A board of a store that has no error: its numbers name papers and flutes that are valid. -/
structure Fine (ps : List Paper) (fs : List Flute) (mp mf : List Int) : Prop where
  np : ps.length ≤ 8
  nf : fs.length ≤ 4
  f1 : 1 ≤ mf.length
  f2 : mf.length ≤ 2
  mpl : mp.length = 2 * mf.length + 1
  good : ∀ (n : Nat) (p : Paper), ps[n]? = some p → goodP p = true
  pap : ∀ k, k < mp.length → ∃ (n : Nat) (p : Paper), mp[k]? = some (n : Int) ∧ ps[n]? = some p ∧ p.kind = kindL k
  flu : ∀ i, i < mf.length → ∃ (n : Nat) (f : Flute), mf[i]? = some (n : Int) ∧ fs[n]? = some f ∧ goodF f = true

end Go.Proofs.Ytoihnilgmdcndaa

namespace Go.Proofs.Ytoihnilgmdcndaa
set_option linter.unusedVariables false
set_option linter.unusedSimpArgs false
open Go.RowKit

theorem MapIs.other {w : World} {b n c i : Nat} {f : Int → Int} {v : Value} (h : MapIs w b n f) (hne : b ≠ c) : MapIs (w.setCell ⟨c, i, none⟩ v) b n f := by
  obtain ⟨D, hD, ⟨es, clock, hb, F, hs, hd⟩, ha⟩ := h
  exact ⟨D, hD, ⟨es, clock, (Below.heap_setCell _ _ _ _ hne).trans hb, F, hs, hd⟩, ha⟩

theorem MapIs.dr {w : World} {b n : Nat} {f : Int → Int} (h : MapIs w b n f) : MapIs w.drew b n f := h.keep (Gr.dr w)

theorem MapIs.congr {w : World} {b n n' : Nat} {f g : Int → Int} (h : MapIs w b n f) (hn : n ≤ n') (e : ∀ y, f y = g y) : MapIs w b n' g := by
  have : f = g := funext e
  subst this
  obtain ⟨D, hD, ho, ha⟩ := h
  exact ⟨D, hD, ho.mono hn, ha⟩

end Go.Proofs.Ytoihnilgmdcndaa

namespace Go.Proofs.Ytoihnilgmdcndaa
set_option linter.unusedVariables false
set_option linter.unusedSimpArgs false
open Go.RowKit

theorem owns_keep {w w' : World} {base : Nat} {e : TypeId} {sz : Nat} {v : Value} {n : Nat} {xs : List Value} (h : w.ownsRow base e sz v n xs) (g : Gr w w') : w'.ownsRow base e sz v n xs := by
  obtain ⟨h1, h2⟩ := h
  refine ⟨h1, ?_⟩
  rcases h2 with h2 | ⟨b, cap, cur, hv, hb, hh, r⟩
  · exact .inl h2
  · have hlt : b < w.heap.size := (Array.getElem?_eq_some_iff.1 hh).1
    exact .inr ⟨b, cap, cur, hv, hb, (g.block b hlt).trans hh, r⟩

theorem flat_get {α : Type} {enc : α → List Value} {sz : Nat} (he : ∀ x, (enc x).length = sz) : ∀ (l : List α) (j i : Nat) (x : α) (v : Value), l[j]? = some x → (enc x)[i]? = some v → (l.flatMap enc)[j * sz + i]? = some v
  | [], j, i, x, v, h, _ => by simp at h
  | y :: l, 0, i, x, v, h, hv => by
    simp only [List.getElem?_cons_zero, Option.some.injEq] at h
    subst h
    have hi : i < (enc y).length := (List.getElem?_eq_some_iff.1 hv).1
    simp only [List.flatMap_cons, Nat.zero_mul, Nat.zero_add]
    rw [List.getElem?_append_left hi, hv]
  | y :: l, j + 1, i, x, v, h, hv => by
    simp only [List.getElem?_cons_succ] at h
    have := flat_get he l j i x v h hv
    simp only [List.flatMap_cons]
    rw [List.getElem?_append_right (by rw [he y, Nat.succ_mul]; omega), he y]
    rw [show (j + 1) * sz + i - sz = j * sz + i by rw [Nat.succ_mul]; omega]
    exact this

/-- A row that the call owns is a row. -/
theorem owns_row {α : Type} {enc : α → List Value} {sz : Nat} {w : World} {base : Nat} {e : TypeId} {v : Value} {l : List α} (he : ∀ x, (enc x).length = sz) (hl : l.length ≤ 9223372036854775807) (h : w.ownsRow base e sz v l.length (l.flatMap enc)) :
    ∃ a cap, v = .slice a l.length cap ∧ RowOf sz enc w a l := by
  obtain ⟨h1, h2⟩ := h
  rcases h2 with ⟨hv, hn⟩ | ⟨b, cap, cur, hv, hb, hh, hcap, hmax, hsz, hx⟩
  · refine ⟨none, 0, by rw [hv, hn], hl, fun j x hj => ?_⟩
    have : l = [] := List.eq_nil_of_length_eq_zero hn
    subst this
    simp at hj
  · refine ⟨some ⟨b, 0, none⟩, cap, hv, hl, fun j x hj => ⟨b, 0, rfl, (Array.getElem?_eq_some_iff.1 hh).1, fun i u hu => ?_⟩⟩
    have hf := flat_get he l j i x u hj hu
    rw [← hx] at hf
    have hlt := (List.getElem?_eq_some_iff.1 hf).1
    rw [List.length_take] at hlt
    rw [List.getElem?_take_of_lt (by omega)] at hf
    have hf' : cur[j * sz + i]? = some u := by simpa using hf
    simp only [World.cell?, hh, Nat.zero_add]
    simpa using hf'

theorem flat_snoc {α : Type} (enc : α → List Value) (l : List α) (x : α) : (l ++ [x]).flatMap enc = l.flatMap enc ++ enc x := by simp

theorem owns_lt {w : World} {base : Nat} {e : TypeId} {sz : Nat} {v : Value} {n : Nat} {xs : List Value} (h : w.ownsRow base e sz v n xs) {b : Nat} (hb : v.ownBlock = some b) : base ≤ b := by

  obtain ⟨_, h2⟩ := h
  rcases h2 with ⟨hv, _⟩ | ⟨g, cap, cur, hv, hg, _⟩
  · subst hv; simp [Value.ownBlock] at hb
  · subst hv; simp [Value.ownBlock] at hb; omega

/-- Behind an append onto a row that is the call's own, whatever lay in w lies as it lay. -/
theorem Gr.grown' {w wr w' : World} {base : Nat} {e : TypeId} {sz : Nat} {v : Value} {n : Nat} {xs : List Value} (g : Gr w wr) (h : wr.ownsRow base e sz v n xs) (hb : w.heap.size ≤ base) (hg : wr.grownBy w' v.ownBlock) : Gr w w' :=
  g.grown hg g.size (fun b hb' => Nat.le_trans hb (owns_lt h hb'))

/-- .. and so do the blocks that are no part of the row. -/
theorem Box.grown {w w' : World} {b : Nat} {vs : List Value} {row : Option Nat} (h : Box w b vs) (hg : w.grownBy w' row) (hne : ∀ r, row = some r → b ≠ r) : Box w' b vs := by
  have hb := hg.block b h.1 (fun e => hne b e.symm rfl)
  exact ⟨Nat.lt_of_lt_of_le h.1 hg.size, fun i v hv => (World.cell?_of_block (w := w) (a := ⟨b, i, none⟩) hb).trans (h.2 i v hv)⟩

theorem MapIs.grownRow {w w' : World} {b n : Nat} {f : Int → Int} {row : Option Nat} (h : MapIs w b n f) (hg : w.grownBy w' row) (hne : ∀ r, row = some r → b ≠ r) : MapIs w' b n f := by
  have hlt := h.lt
  obtain ⟨D, hD, ⟨es, clock, hb, F, hs, hd⟩, ha⟩ := h
  exact ⟨D, hD, ⟨es, clock, (hg.block b hlt (fun e => hne b e.symm rfl)).trans hb, F, hs, hd⟩, ha⟩

theorem RowOf.grown {α : Type} {sz : Nat} {enc : α → List Value} {w w' : World} {a : Option Addr} {l : List α} {row : Option Nat} (h : RowOf sz enc w a l) (hg : w.grownBy w' row) (hne : ∀ r b off, row = some r → a = some ⟨b, off, none⟩ → b ≠ r) : RowOf sz enc w' a l := by
  refine ⟨h.1, fun j x hx => ?_⟩
  obtain ⟨b, off, ha, hb, hc⟩ := h.2 j x hx
  have hbk := hg.block b hb (fun e => hne b b off e.symm ha rfl)
  exact ⟨b, off, ha, Nat.lt_of_lt_of_le hb hg.size, fun i v hv => (World.cell?_of_block (w := w) (a := ⟨b, off + j * sz + i, none⟩) hbk).trans (hc i v hv)⟩

theorem cell_news (w : World) (cs : List Value) (t : TypeId) : ∀ (j : Nat) (u : Value), cs[j]? = some u → (w.alloc (.cells cs.toArray t)).cell? ((⟨w.heap.size, 0, none⟩ : Addr).add j) = some u := by
  intro j u h
  have hc := new_cell w cs.toArray t (i := j) (v := u) (by simpa using h)
  unfold Addr.add
  split
  · rename_i h0; subst h0; exact hc
  · simpa using hc

theorem ints_one (l : List Int) : ∀ u ∈ l.map (fun n => Value.int .i64 n), u.oneCell' = true := by
  intro u hu
  obtain ⟨n, _, rfl⟩ := List.mem_map.1 hu
  rfl

end Go.Proofs.Ytoihnilgmdcndaa

namespace Go.Proofs.Ytoihnilgmdcndaa
set_option linter.unusedVariables false
set_option linter.unusedSimpArgs false
open Go.RowKit

def encU (n : Int) : List Value := [.int .u8 n]

abbrev URow := RowOf 1 encU

theorem URow.get {w : World} {a : Option Addr} {l : List Int} (h : URow w a l) {j : Nat} {x : Int} (hx : l[j]? = some x) :
    ∃ b off, a = some ⟨b, off, none⟩ ∧ b < w.heap.size ∧ w.cell? ⟨b, off + j, none⟩ = some (.int .u8 x) := by
  obtain ⟨b, off, ha, hb, hc⟩ := h.2 j x hx
  have := hc 0 (.int .u8 x) rfl
  exact ⟨b, off, ha, hb, by simpa using this⟩

theorem RowOf.addr {α : Type} {sz : Nat} {enc : α → List Value} {w : World} {a : Option Addr} {l : List α} (h : RowOf sz enc w a l) (h0 : 0 < l.length) : ∃ b off, a = some ⟨b, off, none⟩ ∧ b < w.heap.size := by
  obtain ⟨x, hx⟩ := get_of_lt h0
  obtain ⟨b, off, ha, hb, _⟩ := h.2 0 x hx
  exact ⟨b, off, ha, hb⟩

theorem infoInt : (Try.prog.info? 3).map (fun i => (i.zero, i.size, i.bytes)) = some (some (.int .i64 0), 1, 8) := by kernel_rfl

/-- An address in a block from n on. -/
def NewAt (n : Nat) (a : Option Addr) : Prop := ∀ b off c, a = some ⟨b, off, c⟩ → n ≤ b

theorem NewAt.lit (b off n : Nat) (h : n ≤ b) : NewAt n (some ⟨b, off, none⟩) := by
  intro b' off' c e
  injection e with e
  injection e with e1 _ _
  omega

theorem NewAt.le {m n : Nat} {a : Option Addr} (h : NewAt n a) (hm : m ≤ n) : NewAt m a := fun b off c e => Nat.le_trans hm (h b off c e)

/-- A row that the call owns is a row, in a block of the call's own. -/
theorem owns_row_new {α : Type} {enc : α → List Value} {sz : Nat} {w : World} {base : Nat} {e : TypeId} {v : Value} {l : List α} (he : ∀ x, (enc x).length = sz) (hl : l.length ≤ 9223372036854775807) (h : w.ownsRow base e sz v l.length (l.flatMap enc)) :
    ∃ a cap, v = .slice a l.length cap ∧ RowOf sz enc w a l ∧ NewAt base a := by
  obtain ⟨a, cap, hv, hr⟩ := owns_row he hl h
  refine ⟨a, cap, hv, hr, fun b off c ea => ?_⟩
  subst ea
  subst hv
  exact owns_lt h rfl

theorem RowOf.other {α : Type} {sz : Nat} {enc : α → List Value} {w : World} {a : Option Addr} {l : List α} {c i n : Nat} {v : Value} (h : RowOf sz enc w a l) (hn : NewAt n a) (hc : c < n) : RowOf sz enc (w.setCell ⟨c, i, none⟩ v) a l := by
  refine ⟨h.1, fun j x hx => ?_⟩
  obtain ⟨b, off, ha, hb, hcl⟩ := h.2 j x hx
  refine ⟨b, off, ha, by simpa using hb, fun k u hu => ?_⟩
  have := hn b off none ha
  rw [cell_set_ne v (.inl (by omega))]
  exact hcl k u hu

end Go.Proofs.Ytoihnilgmdcndaa

namespace Go.Proofs.Ytoihnilgmdcndaa
set_option linter.unusedVariables false
set_option linter.unusedSimpArgs false
open Go.RowKit

theorem wp_region_inv' {P : Program} {Q : Exit → Act → World → Prop} {id : Nat} {a : Act} {w : World} {l : List Oper} (n : Nat) (ds : List (Nat × Nat)) (JJ : Act → Array Bool → Act → World → Prop) (hm : P.follows .mixedOrders = true)
    (hB : (decide (n < l.toArray.size) && Region.sinkB .any l.toArray n && Region.chainB .any l.toArray n && minB .any l.toArray n && Region.seqB .any l.toArray (l.toArray.size - n) n (Array.replicate n true ++ Array.replicate (l.toArray.size - n) false)) = true)
    (hD : depB .any l.toArray ds = true)
    (hJ : JJ a (Array.replicate l.toArray.size false) a w.drew)
    (hstep : ∀ i, i < n → ∀ listed a1 w, listed.getD i true = false → (∀ j, (i, j) ∈ ds → listed.getD j false = true) → JJ a listed a1 w → wpOp P l.toArray Q i (fun a' w' => JJ a (listed.setIfInBounds i true) a' w') a1 w)
    (hend : ∀ listed a1 w, n ≤ listed.size → (∀ j, j < n → listed.getD j true = true) → JJ a listed a1 w → wpList P l.toArray Q (l.drop n) a1 w) : (Code.region id l.toArray true).wp P Q a w :=
  wp_region_inv n (JJ a) hm hB hJ (fun i o hi ho listed a1 w _ hun hdep hJ => hstep i hi listed a1 w hun (fun j hj => by
    obtain ⟨e, he, hb, hj'⟩ := depB_spec hD hj ho
    rw [← hj']
    exact hdep e he hb) hJ)
    (fun listed a1 w hs hall hJ => hend listed a1 w (by
      have h1 : n < l.toArray.size := by
        simp only [Bool.and_eq_true, decide_eq_true_eq] at hB
        exact hB.1.1.1.1
      omega) hall hJ)

/-- It has come up: then A. -/
def Fact (l : Array Bool) (i : Nat) (A : Prop) : Prop := l.getD i false = true → A

theorem Fact.keep {l : Array Bool} {i j : Nat} {A : Prop} (h : Fact l j A) (hij : i ≠ j) : Fact (l.setIfInBounds i true) j A := fun e => h (by rwa [getD_set_ne false hij] at e)

theorem Fact.lay {l : Array Bool} {i : Nat} {A : Prop} (h : A) : Fact l i A := fun _ => h

theorem Fact.map {l : Array Bool} {j : Nat} {A B : Prop} (h : Fact l j A) (f : A → B) : Fact l j B := fun e => f (h e)

theorem Fact.no (n j : Nat) (A : Prop) : Fact (Array.replicate n false) j A := fun h => by rw [getD_replicate_false] at h; cases h

theorem Fact.now {l : Array Bool} {n j : Nat} {A : Prop} (h : Fact l j A) (hn : ∀ j, j < n → l.getD j true = true) (hs : n ≤ l.size) (hj : j < n) : A := by
  apply h
  have := hn j hj
  have hl : j < l.size := by omega
  simp [hl] at this ⊢
  exact this

/-- Rows at A, new variables at Bs: none of the rows lies in one of the variables. -/
structure Sep (w0 w : World) (A : List (Option Addr)) (Bs : List Nat) : Prop where
  gr : Gr w0 w
  bs : ∀ B ∈ Bs, w0.heap.size ≤ B ∧ B < w.heap.size
  ro : ∀ x ∈ A, ∃ b off, x = some ⟨b, off, none⟩ ∧ b < w.heap.size ∧ ∀ B ∈ Bs, b ≠ B

theorem Sep.call {w0 w w' : World} {A : List (Option Addr)} {Bs : List Nat} (h : Sep w0 w A Bs) (g : Gr w w') (A' : List (Option Addr)) (hA : ∀ x ∈ A', NewAt w.heap.size x ∧ ∃ b off, x = some ⟨b, off, none⟩ ∧ b < w'.heap.size) : Sep w0 w' (A' ++ A) Bs := by
  refine ⟨h.gr.tr g, fun B hB => ⟨(h.bs B hB).1, Nat.lt_of_lt_of_le (h.bs B hB).2 g.size⟩, fun x hx => ?_⟩
  rcases List.mem_append.1 hx with hx | hx
  · obtain ⟨hn, b, off, e, hb⟩ := hA x hx
    exact ⟨b, off, e, hb, fun B hB => by have := hn b off none e; have := (h.bs B hB).2; omega⟩
  · obtain ⟨b, off, e, hb, hne⟩ := h.ro x hx
    exact ⟨b, off, e, Nat.lt_of_lt_of_le hb g.size, hne⟩

theorem Sep.al {w0 w : World} {A : List (Option Addr)} {Bs : List Nat} (h : Sep w0 w A Bs) (o : Obj) : Sep w0 (w.alloc o) A (w.heap.size :: Bs) := by
  refine ⟨h.gr.tr (Gr.al _ _), fun B hB => ?_, fun x hx => ?_⟩
  · have hs := h.gr.size
    rcases List.mem_cons.1 hB with rfl | hB
    · exact ⟨hs, by simp⟩
    · have := h.bs B hB
      exact ⟨this.1, by simp; omega⟩
  · obtain ⟨b, off, e, hb, hne⟩ := h.ro x hx
    refine ⟨b, off, e, by simp; omega, fun B hB => ?_⟩
    rcases List.mem_cons.1 hB with rfl | hB
    · omega
    · exact hne B hB

theorem Sep.ne {w0 w : World} {A : List (Option Addr)} {Bs : List Nat} (h : Sep w0 w A Bs) {b off : Nat} (ha : some ⟨b, off, none⟩ ∈ A) {B : Nat} (hB : B ∈ Bs) : b ≠ B := by
  obtain ⟨b', off', e, _, hne⟩ := h.ro _ ha
  cases e
  exact hne B hB

theorem RowOf.setAt {α : Type} {sz : Nat} {enc : α → List Value} {w : World} {a : Option Addr} {l : List α} (h : RowOf sz enc w a l) {c : Nat} (hne : ∀ b off, a = some ⟨b, off, none⟩ → b ≠ c) (i : Nat) (v : Value) : RowOf sz enc (w.setCell ⟨c, i, none⟩ v) a l := by
  refine ⟨h.1, fun j x hx => ?_⟩
  obtain ⟨b, off, e, hb, hc⟩ := h.2 j x hx
  exact ⟨b, off, e, by simpa using hb, fun k u hu => by rw [cell_set_ne v (.inl (hne b off e))]; exact hc k u hu⟩

theorem Sep.apart {w0 w : World} {A : List (Option Addr)} {Bs : List Nat} (h : Sep w0 w A Bs) {x : Option Addr} (hx : x ∈ A) {B : Nat} (hB : B ∈ Bs) : ∀ b off, x = some ⟨b, off, none⟩ → b ≠ B := by
  rintro b off rfl
  exact h.ne hx hB

/-- A block of cells, as it was made. -/
def Blk (w : World) (B : Nat) (vs : List Value) (t : TypeId) : Prop := w.heap[B]? = some (.cells vs.toArray t (0, 0))

theorem Blk.new (w : World) (vs : List Value) (t : TypeId) : Blk (w.alloc (.cells vs.toArray t)) w.heap.size vs t := World.alloc_heap_new w _

theorem Blk.keep {w w' : World} {B : Nat} {vs : List Value} {t : TypeId} (h : Blk w B vs t) (g : Gr w w') : Blk w' B vs t := (g.block B (Array.getElem?_eq_some_iff.1 h).1).trans h

theorem Blk.ne {w : World} {B B' : Nat} {vs vs' : List Value} {t t' : TypeId} (h : Blk w B vs t) (h' : Blk w B' vs' t') (ht : t ≠ t') : B ≠ B' := by
  rintro rfl
  have := h.symm.trans h'
  simp at this
  exact ht this.2

theorem Blk.own {w : World} {B : Nat} {vs : List Value} {t : TypeId} (h : Blk w B vs t) : Own w B vs :=
  ⟨⟨(Array.getElem?_eq_some_iff.1 h).1, fun i v hv => by simp only [World.cell?, show w.heap[B]? = _ from h]; simpa using hv⟩, fun i => by simp [World.frozen?, show w.heap[B]? = _ from h]⟩

end Go.Proofs.Ytoihnilgmdcndaa

namespace Go.Proofs.Ytoihnilgmdcndaa
set_option linter.unusedVariables false
set_option linter.unusedSimpArgs false
open Go.RowKit

/-- What is said of a value stays while the world grows. -/
def Stays (F : World → Value → Prop) : Prop := ∀ v v' x, Gr v v' → F v x → F v' x

theorem Stays.eq (u : Value) : Stays (fun _ x => x = u) := fun _ _ _ _ h => h

theorem Stays.tr : Stays (fun _ _ => True) := fun _ _ _ _ _ => trivial

/-- x, but u at i. -/
def upd (x : Nat → Value) (i : Nat) (u : Value) (j : Nat) : Value := bif j == i then u else x j

theorem upd_at (x : Nat → Value) (i : Nat) (u : Value) : upd x i u i = u := by simp [upd]

theorem upd_ne (x : Nat → Value) {i j : Nat} (u : Value) (h : j ≠ i) : upd x i u j = x j := by
  have e : (j == i) = false := by simpa using h
  simp [upd, e]

theorem upd_of {x : Nat → Value} {i : Nat} {u : Value} (h : x i = u) : ∃ y, x = upd y i u := ⟨x, by
  funext j
  by_cases e : j = i
  · subst e
    rw [upd_at, h]
  · rw [upd_ne x u e]⟩

theorem wp_region_facts {P : Program} {Q : Exit → Act → World → Prop} {id : Nat} {W : World} {l : List Oper} (n : Nat) (ds : List (Nat × Nat)) (fr : (Nat → Value) → Act) (x0 : Nat → Value) (Fs : List (World → Value → Prop)) {a : Act} (ha : a = fr x0) (hm : P.follows .mixedOrders = true)
    (hB : (decide (n < l.toArray.size) && Region.sinkB .any l.toArray n && Region.chainB .any l.toArray n && minB .any l.toArray n && Region.seqB .any l.toArray (l.toArray.size - n) n (Array.replicate n true ++ Array.replicate (l.toArray.size - n) false)) = true)
    (hD : depB .any l.toArray ds = true)
    (hst : ∀ (i : Nat) (F : World → Value → Prop), Fs[i]? = some F → Stays F)
    (hstep : ∀ i, i < n → ∀ x v, Gr W v → (∀ (j : Nat) (F : World → Value → Prop), (i, j) ∈ ds → Fs[j]? = some F → F v (x j)) → ∀ K : Act → World → Prop, (∀ u v', Gr v v' → (∀ F : World → Value → Prop, Fs[i]? = some F → F v' u) → K (fr (upd x i u)) v') → wpOp P l.toArray Q i K (fr x) v)
    (hend : ∀ x v, Gr W v → (∀ (j : Nat) (F : World → Value → Prop), j < n → Fs[j]? = some F → F v (x j)) → wpList P l.toArray Q (l.drop n) (fr x) v) : (Code.region id l.toArray true).wp P Q a W := by
  subst ha
  refine wp_region_inv' n ds (fun _ listed a v => ∃ x, a = fr x ∧ Gr W v ∧ ∀ (j : Nat) (F : World → Value → Prop), Fs[j]? = some F → listed.getD j false = true → F v (x j)) hm hB hD ⟨x0, rfl, Gr.dr W, fun j F _ h => by rw [getD_replicate_false] at h; cases h⟩ ?_ ?_
  · rintro i hi listed a v hun hdep ⟨x, rfl, gv, hf⟩
    refine hstep i hi x v gv (fun j F hj hF => hf j F hF (hdep j hj)) _ (fun u v' hg hu => ⟨upd x i u, rfl, gv.tr hg, fun j F hF hl => ?_⟩)
    by_cases e : j = i
    · subst e
      rw [upd_at]
      exact hu F hF
    · rw [upd_ne x u e]
      exact hst j F hF v v' _ hg (hf j F hF (by rwa [getD_set_ne false (fun e' => e e'.symm)] at hl))
  · rintro listed a v hs hall ⟨x, rfl, gv, hf⟩
    refine hend x v gv (fun j F hj hF => hf j F hF ?_)
    have h1 := hall j hj
    have hl : j < listed.size := by omega
    simp [hl] at h1 ⊢
    exact h1

/-- What is said of each, one after another. -/
theorem stays_nil : ∀ (i : Nat) (F : World → Value → Prop), ([] : List (World → Value → Prop))[i]? = some F → Stays F := fun i F h => by simp at h

theorem stays_cons {G : World → Value → Prop} {Fs : List (World → Value → Prop)} (h : Stays G) (hs : ∀ (i : Nat) (F : World → Value → Prop), Fs[i]? = some F → Stays F) : ∀ (i : Nat) (F : World → Value → Prop), (G :: Fs)[i]? = some F → Stays F
  | 0, F, e => by simp at e; subst e; exact h
  | i + 1, F, e => hs i F (by simpa using e)

theorem at_of {Fs : List (World → Value → Prop)} {i : Nat} {G : World → Value → Prop} {v : World} {u : Value} (h : Fs[i]? = some G) (hG : G v u) : ∀ F : World → Value → Prop, Fs[i]? = some F → F v u := by
  intro F e
  rw [h] at e
  cases e
  exact hG

end Go.Proofs.Ytoihnilgmdcndaa
