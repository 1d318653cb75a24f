/- The law of a region of calls and allocations, told with pairs; facts; rows apart from new variables. -/
import Derived.Test.YtkfhmfidgdpeiaaR2
import Derived.Test.YtkfhmfidgdpeiaaP1
import Derived.RangeFuncBox
namespace Go.Proofs.Ytkfhmfidgdpeiaa
set_option linter.unusedVariables false
set_option linter.unusedSimpArgs false
open Go.RowKit

theorem wp_region_inv' {P : Program} {Q : Exit → Act → World → Prop} {id : Nat} {a : Act} {w : World} {l : List Oper} (n : Nat) (ds : List (Nat × Nat)) (JJ : Act → Array Bool → Act → World → Prop) (hm : P.follows .mixedOrders = true)
    (hB : (decide (n < l.toArray.size) && Region.sinkB .any l.toArray n && Region.chainB .any l.toArray n && minB .any l.toArray n && Region.seqB .any l.toArray (l.toArray.size - n) n (Array.replicate n true ++ Array.replicate (l.toArray.size - n) false)) = true)
    (hD : depB .any l.toArray ds = true)
    (hJ : JJ a (Array.replicate l.toArray.size false) a w.drew)
    (hstep : ∀ i, i < n → ∀ listed a1 w, listed.getD i true = false → (∀ j, (i, j) ∈ ds → listed.getD j false = true) → JJ a listed a1 w → wpOp P l.toArray Q i (fun a' w' => JJ a (listed.setIfInBounds i true) a' w') a1 w)
    (hend : ∀ listed a1 w, n ≤ listed.size → (∀ j, j < n → listed.getD j true = true) → JJ a listed a1 w → wpList P l.toArray Q (l.drop n) a1 w) : (Code.region id l.toArray true).wp P Q a w :=
  wp_region_inv n (JJ a) hm hB hJ (fun i o hi ho listed a1 w _ hun hdep hJ => hstep i hi listed a1 w hun (fun j hj => by
    obtain ⟨e, he, hb, hj'⟩ := depB_spec hD hj ho
    rw [← hj']
    exact hdep e he hb) hJ)
    (fun listed a1 w hs hall hJ => hend listed a1 w (by
      have h1 : n < l.toArray.size := by
        simp only [Bool.and_eq_true, decide_eq_true_eq] at hB
        exact hB.1.1.1.1
      omega) hall hJ)

/-- It has come up: then A. -/
def Fact (l : Array Bool) (i : Nat) (A : Prop) : Prop := l.getD i false = true → A

theorem Fact.keep {l : Array Bool} {i j : Nat} {A : Prop} (h : Fact l j A) (hij : i ≠ j) : Fact (l.setIfInBounds i true) j A := fun e => h (by rwa [getD_set_ne false hij] at e)

theorem Fact.lay {l : Array Bool} {i : Nat} {A : Prop} (h : A) : Fact l i A := fun _ => h

theorem Fact.map {l : Array Bool} {j : Nat} {A B : Prop} (h : Fact l j A) (f : A → B) : Fact l j B := fun e => f (h e)

theorem Fact.no (n j : Nat) (A : Prop) : Fact (Array.replicate n false) j A := fun h => by rw [getD_replicate_false] at h; cases h

theorem Fact.now {l : Array Bool} {n j : Nat} {A : Prop} (h : Fact l j A) (hn : ∀ j, j < n → l.getD j true = true) (hs : n ≤ l.size) (hj : j < n) : A := by
  apply h
  have := hn j hj
  have hl : j < l.size := by omega
  simp [hl] at this ⊢
  exact this

/-- Rows at A, new variables at Bs: none of the rows lies in one of the variables. -/
structure Sep (w0 w : World) (A : List (Option Addr)) (Bs : List Nat) : Prop where
  gr : Gr w0 w
  bs : ∀ B ∈ Bs, w0.heap.size ≤ B ∧ B < w.heap.size
  ro : ∀ x ∈ A, ∃ b off, x = some ⟨b, off, none⟩ ∧ b < w.heap.size ∧ ∀ B ∈ Bs, b ≠ B

theorem Sep.call {w0 w w' : World} {A : List (Option Addr)} {Bs : List Nat} (h : Sep w0 w A Bs) (g : Gr w w') (A' : List (Option Addr)) (hA : ∀ x ∈ A', NewAt w.heap.size x ∧ ∃ b off, x = some ⟨b, off, none⟩ ∧ b < w'.heap.size) : Sep w0 w' (A' ++ A) Bs := by
  refine ⟨h.gr.tr g, fun B hB => ⟨(h.bs B hB).1, Nat.lt_of_lt_of_le (h.bs B hB).2 g.size⟩, fun x hx => ?_⟩
  rcases List.mem_append.1 hx with hx | hx
  · obtain ⟨hn, b, off, e, hb⟩ := hA x hx
    exact ⟨b, off, e, hb, fun B hB => by have := hn b off none e; have := (h.bs B hB).2; omega⟩
  · obtain ⟨b, off, e, hb, hne⟩ := h.ro x hx
    exact ⟨b, off, e, Nat.lt_of_lt_of_le hb g.size, hne⟩

theorem Sep.al {w0 w : World} {A : List (Option Addr)} {Bs : List Nat} (h : Sep w0 w A Bs) (o : Obj) : Sep w0 (w.alloc o) A (w.heap.size :: Bs) := by
  refine ⟨h.gr.tr (Gr.al _ _), fun B hB => ?_, fun x hx => ?_⟩
  · have hs := h.gr.size
    rcases List.mem_cons.1 hB with rfl | hB
    · exact ⟨hs, by simp⟩
    · have := h.bs B hB
      exact ⟨this.1, by simp; omega⟩
  · obtain ⟨b, off, e, hb, hne⟩ := h.ro x hx
    refine ⟨b, off, e, by simp; omega, fun B hB => ?_⟩
    rcases List.mem_cons.1 hB with rfl | hB
    · omega
    · exact hne B hB

theorem Sep.ne {w0 w : World} {A : List (Option Addr)} {Bs : List Nat} (h : Sep w0 w A Bs) {b off : Nat} (ha : some ⟨b, off, none⟩ ∈ A) {B : Nat} (hB : B ∈ Bs) : b ≠ B := by
  obtain ⟨b', off', e, _, hne⟩ := h.ro _ ha
  cases e
  exact hne B hB

theorem RowOf.setAt {α : Type} {sz : Nat} {enc : α → List Value} {w : World} {a : Option Addr} {l : List α} (h : RowOf sz enc w a l) {c : Nat} (hne : ∀ b off, a = some ⟨b, off, none⟩ → b ≠ c) (i : Nat) (v : Value) : RowOf sz enc (w.setCell ⟨c, i, none⟩ v) a l := by
  refine ⟨h.1, fun j x hx => ?_⟩
  obtain ⟨b, off, e, hb, hc⟩ := h.2 j x hx
  exact ⟨b, off, e, by simpa using hb, fun k u hu => by rw [cell_set_ne v (.inl (hne b off e))]; exact hc k u hu⟩

theorem Sep.apart {w0 w : World} {A : List (Option Addr)} {Bs : List Nat} (h : Sep w0 w A Bs) {x : Option Addr} (hx : x ∈ A) {B : Nat} (hB : B ∈ Bs) : ∀ b off, x = some ⟨b, off, none⟩ → b ≠ B := by
  rintro b off rfl
  exact h.ne hx hB

/-- A block of cells, as it was made. -/
def Blk (w : World) (B : Nat) (vs : List Value) (t : TypeId) : Prop := w.heap[B]? = some (.cells vs.toArray t (0, 0))

theorem Blk.new (w : World) (vs : List Value) (t : TypeId) : Blk (w.alloc (.cells vs.toArray t)) w.heap.size vs t := World.alloc_heap_new w _

theorem Blk.keep {w w' : World} {B : Nat} {vs : List Value} {t : TypeId} (h : Blk w B vs t) (g : Gr w w') : Blk w' B vs t := (g.block B (Array.getElem?_eq_some_iff.1 h).1).trans h

theorem Blk.ne {w : World} {B B' : Nat} {vs vs' : List Value} {t t' : TypeId} (h : Blk w B vs t) (h' : Blk w B' vs' t') (ht : t ≠ t') : B ≠ B' := by
  rintro rfl
  have := h.symm.trans h'
  simp at this
  exact ht this.2

theorem Blk.own {w : World} {B : Nat} {vs : List Value} {t : TypeId} (h : Blk w B vs t) : Own w B vs :=
  ⟨⟨(Array.getElem?_eq_some_iff.1 h).1, fun i v hv => by simp only [World.cell?, show w.heap[B]? = _ from h]; simpa using hv⟩, fun i => by simp [World.frozen?, show w.heap[B]? = _ from h]⟩

end Go.Proofs.Ytkfhmfidgdpeiaa
