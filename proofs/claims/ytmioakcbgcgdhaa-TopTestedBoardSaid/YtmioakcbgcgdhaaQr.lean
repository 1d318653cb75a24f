/- A region that draws its order, in which loads, calls and allocations come up in many orders, and stores at the end in one: an invariant over the set of what has come up. One proof for each operation, not for each order. The law of a region of calls and allocations, told with pairs; facts; rows apart from new variables. A region of calls, loads and allocations that draws its order: each operation hands over a value of which something is said that stays. One short proof for each operation. -/
import Derived.Test.YtmioakcbgcgdhaaQb
import Derived.Test.YtmioakcbgcgdhaaP1
import Derived.RangeFuncBox
namespace Go.Proofs.Ytmioakcbgcgdhaa
set_option linter.unusedVariables false
set_option linter.unusedSimpArgs false
open Go.RowKit

section
variable {P : Program} {ops : Array Oper} {Q : Exit → Act → World → Prop} {md : Region.Mode}

/-- How many of the first operations have not come up. -/
def remN (listed : Array Bool) : Nat → Nat
  | 0 => 0
  | k + 1 => remN listed k + if listed.getD k true = false then 1 else 0

theorem getD_set_eq (listed : Array Bool) {i : Nat} (h : listed.getD i true = false) : (listed.setIfInBounds i true).getD i true = true := by
  have hi : i < listed.size := by
    rcases Nat.lt_or_ge i listed.size with h' | h'
    · exact h'
    · simp [Array.getElem?_eq_none h'] at h
  simp [hi]

theorem remN_past (listed : Array Bool) (i : Nat) : ∀ k, k ≤ i → remN (listed.setIfInBounds i true) k = remN listed k
  | 0, _ => rfl
  | k + 1, h => by
    unfold remN
    rw [remN_past listed i k (by omega), getD_set_ne true (show i ≠ k by omega)]

theorem remN_set (listed : Array Bool) {i : Nat} (hi : listed.getD i true = false) : ∀ k, i < k → remN (listed.setIfInBounds i true) k + 1 = remN listed k
  | 0, h => by omega
  | k + 1, h => by
    unfold remN
    by_cases e : i = k
    · subst e
      rw [remN_past listed i i (Nat.le_refl _), getD_set_eq listed hi, hi]
      simp
    · have := remN_set listed hi k (by omega)
      rw [getD_set_ne true (show i ≠ k from e)]
      omega

theorem remN_zero {listed : Array Bool} : ∀ k, remN listed k = 0 → ∀ j, j < k → listed.getD j true = true
  | 0, _, j, h => by omega
  | k + 1, h0, j, hj => by
    unfold remN at h0
    by_cases e : j = k
    · subst e
      cases h : listed.getD j true with
      | true => rfl
      | false => simp [h] at h0
    · exact remN_zero k (by omega) j (by omega)

theorem remN_full (s : Nat) : ∀ k, k ≤ s → remN (Array.replicate s false) k = k
  | 0, _ => rfl
  | k + 1, h => by
    unfold remN
    rw [remN_full s k (by omega), if_pos (getD_in (by simp only [Array.size_replicate]; omega) (getD_replicate_false _ _))]

theorem first_unlisted (listed : Array Bool) : ∀ m, (∀ j, j < m → listed.getD j true = true) ∨ ∃ i, i < m ∧ listed.getD i true = false ∧ ∀ j, j < i → listed.getD j true = true
  | 0 => .inl (fun j h => by omega)
  | m + 1 => by
    rcases first_unlisted listed m with h | ⟨i, hi, h0, h1⟩
    · cases e : listed.getD m true with
      | true => exact .inl (fun j hj => by
          by_cases ej : j = m
          · subst ej; exact e
          · exact h j (by omega))
      | false => exact .inr ⟨m, by omega, e, h⟩
    · exact .inr ⟨i, by omega, h0, h1⟩

/-- Each of the first n operations waits only for ones before it. -/
def minB (md : Region.Mode) (ops : Array Oper) (n : Nat) : Bool :=
  (List.range n).all fun i => match ops[i]? with
    | none => true
    | some o => o.after.all fun e => !(Region.binds md e) || decide (e.on < i)

theorem minB_spec {n : Nat} (h : minB md ops n = true) {i : Nat} {o : Oper} (hi : i < n) (ho : ops[i]? = some o) {e} (he : e ∈ o.after) (hb : Region.binds md e = true) : e.on < i := by
  have := List.all_eq_true.1 h i (by simpa using hi)
  rw [ho] at this
  simp only [Array.all_eq_true'] at this
  have := this e he
  simpa [hb] using this

theorem wpAny_inv {n g : Nat} (hs : Region.sinkB md ops n = true) (hc : Region.chainB md ops n = true) (hn : n < ops.size) (hm : minB md ops n = true) (J : Array Bool → Act → World → Prop)
    (hstep : ∀ i o, i < n → ops[i]? = some o → ∀ listed a w, listed.size = ops.size → listed.getD i true = false → (∀ e ∈ o.after, Region.binds md e = true → listed.getD e.on false = true) → J listed a w → wpOp P ops Q i (fun a' w' => J (listed.setIfInBounds i true) a' w') a w)
    (hend : ∀ listed a w, HeadInv md ops n listed → (∀ j, j < n → listed.getD j true = true) → J listed a w → wpAny P md ops Q g listed a w) :
    ∀ (f : Nat) (listed : Array Bool) (a : Act) (w : World), HeadInv md ops n listed → remN listed n = f → J listed a w → wpAny P md ops Q (f + g) listed a w
  | 0, listed, a, w, inv, hf, hJ => by
    rw [Nat.zero_add]
    exact hend listed a w inv (remN_zero n hf) hJ
  | f + 1, listed, a, w, inv, hf, hJ => by
    rcases first_unlisted listed n with h | ⟨i, hi, h0, h1⟩
    · have : remN listed n = 0 := by
        clear hf inv hJ hend hstep hs hc hn hm
        induction n with
        | zero => rfl
        | succ k ih =>
          unfold remN
          rw [ih (fun j hj => h j (by omega)), h k (by omega)]
          simp
      omega
    · have hlt : i < ops.size := by omega
      have hready : i ∈ Region.ready md ops listed := by
        refine mem_ready.2 ⟨h0, ops[i], Array.getElem?_eq_getElem hlt, fun e he hb => ?_⟩
        have hlt' := minB_spec hm hi (Array.getElem?_eq_getElem hlt) he hb
        have h2 := h1 e.on hlt'
        have : e.on < listed.size := by rw [inv.size]; omega
        simp [this] at h2 ⊢
        exact h2
      rw [show f + 1 + g = (f + g) + 1 by omega]
      refine ⟨fun hnil => (by rw [hnil] at hready; cases hready), fun j hj => ?_⟩
      have hjn : j < n := by
        rcases Nat.lt_or_ge j n with h | h
        · exact h
        · exact absurd hj (tail_waits hs hc hn inv _ i rfl hi h0 j h)
      obtain ⟨hj0, o, ho, hdep⟩ := mem_ready.1 hj
      refine wpOp_mono (fun a' w' h' => ?_) (hstep j o hjn ho listed a w inv.size hj0 hdep hJ)
      exact wpAny_inv hs hc hn hm J hstep hend f _ a' w' (inv.set hj hjn) (by have := remN_set listed hj0 n hjn; omega) h'

/-- So many of its waits, told as pairs. -/
def depB (md : Region.Mode) (ops : Array Oper) (ds : List (Nat × Nat)) : Bool :=
  ds.all fun p => match ops[p.1]? with
    | none => false
    | some o => o.after.any fun e => Region.binds md e && decide (e.on = p.2)

theorem depB_spec {ds : List (Nat × Nat)} (h : depB md ops ds = true) {i j : Nat} (hij : (i, j) ∈ ds) {o : Oper} (ho : ops[i]? = some o) : ∃ e ∈ o.after, Region.binds md e = true ∧ e.on = j := by
  have := List.all_eq_true.1 h _ hij
  simp only [ho] at this
  obtain ⟨e, he, hh⟩ := Array.any_eq_true'.1 this
  simp only [Bool.and_eq_true, decide_eq_true_eq] at hh
  exact ⟨e, he, hh.1, hh.2⟩

theorem wp_region_inv {id : Nat} {a : Act} {w : World} {l : List Oper} (n : Nat) (J : Array Bool → Act → World → Prop) (hm : P.follows .mixedOrders = true)
    (hB : (decide (n < l.toArray.size) && Region.sinkB .any l.toArray n && Region.chainB .any l.toArray n && minB .any l.toArray n && Region.seqB .any l.toArray (l.toArray.size - n) n (Array.replicate n true ++ Array.replicate (l.toArray.size - n) false)) = true)
    (hJ : J (Array.replicate l.toArray.size false) a w.drew)
    (hstep : ∀ i o, i < n → l.toArray[i]? = some o → ∀ listed a w, listed.size = l.toArray.size → listed.getD i true = false → (∀ e ∈ o.after, Region.binds .any e = true → listed.getD e.on false = true) → J listed a w → wpOp P l.toArray Q i (fun a' w' => J (listed.setIfInBounds i true) a' w') a w)
    (hend : ∀ listed a w, listed.size = l.toArray.size → (∀ j, j < n → listed.getD j true = true) → J listed a w → wpList P l.toArray Q (l.drop n) a w) : (Code.region id l.toArray true).wp P Q a w := by
  simp only [Bool.and_eq_true, decide_eq_true_eq] at hB
  obtain ⟨⟨⟨⟨hn, hs⟩, hc⟩, hmin⟩, hseq⟩ := hB
  have hn' : n < l.length := by simpa using hn
  have hdl : (l.drop n).length = l.toArray.size - n := by simp
  have inv0 : HeadInv .any l.toArray n (Array.replicate l.toArray.size false) :=
    ⟨by simp, fun j oj _ hl => (by rw [getD_replicate_false] at hl; cases hl), fun t _ ht => getD_in (by simpa using ht) (getD_replicate_false _ _)⟩
  refine wp_region_any hm ?_
  have := wpAny_inv (md := .any) (g := l.toArray.size - n) (Q := Q) hs hc hn hmin J hstep (fun listed a' w' inv hall hJ' => by
    have e : listed = Array.replicate n true ++ Array.replicate (l.toArray.size - n) false := by
      apply Array.ext
      · rw [inv.size]; simp; omega
      · intro j h1 h2
        rcases Nat.lt_or_ge j n with h | h
        · have := hall j h
          simp [h1] at this
          rw [this, Array.getElem_append_left (by simpa using h)]
          simp
        · have := inv.tail j h (by rw [inv.size] at h1; exact h1)
          simp [h1] at this
          rw [this, Array.getElem_append_right (by simpa using h)]
          simp
    have h := wpAny_of_seq (md := .any) (Q' := Q) (l.drop n) n listed a' w' (fun j => by simp [List.getElem?_drop]) (by rw [hdl, e]; exact hseq) (hend listed a' w' inv.size hall hJ')
    rwa [hdl] at h) n (Array.replicate l.toArray.size false) a w.drew inv0 (remN_full _ n (by omega)) hJ
  rw [show n + (l.toArray.size - n) = l.toArray.size by omega] at this
  exact this

end

end Go.Proofs.Ytmioakcbgcgdhaa

namespace Go.Proofs.Ytmioakcbgcgdhaa
set_option linter.unusedVariables false
set_option linter.unusedSimpArgs false
open Go.RowKit

theorem wp_region_inv' {P : Program} {Q : Exit → Act → World → Prop} {id : Nat} {a : Act} {w : World} {l : List Oper} (n : Nat) (ds : List (Nat × Nat)) (JJ : Act → Array Bool → Act → World → Prop) (hm : P.follows .mixedOrders = true)
    (hB : (decide (n < l.toArray.size) && Region.sinkB .any l.toArray n && Region.chainB .any l.toArray n && minB .any l.toArray n && Region.seqB .any l.toArray (l.toArray.size - n) n (Array.replicate n true ++ Array.replicate (l.toArray.size - n) false)) = true)
    (hD : depB .any l.toArray ds = true)
    (hJ : JJ a (Array.replicate l.toArray.size false) a w.drew)
    (hstep : ∀ i, i < n → ∀ listed a1 w, listed.getD i true = false → (∀ j, (i, j) ∈ ds → listed.getD j false = true) → JJ a listed a1 w → wpOp P l.toArray Q i (fun a' w' => JJ a (listed.setIfInBounds i true) a' w') a1 w)
    (hend : ∀ listed a1 w, n ≤ listed.size → (∀ j, j < n → listed.getD j true = true) → JJ a listed a1 w → wpList P l.toArray Q (l.drop n) a1 w) : (Code.region id l.toArray true).wp P Q a w :=
  wp_region_inv n (JJ a) hm hB hJ (fun i o hi ho listed a1 w _ hun hdep hJ => hstep i hi listed a1 w hun (fun j hj => by
    obtain ⟨e, he, hb, hj'⟩ := depB_spec hD hj ho
    rw [← hj']
    exact hdep e he hb) hJ)
    (fun listed a1 w hs hall hJ => hend listed a1 w (by
      have h1 : n < l.toArray.size := by
        simp only [Bool.and_eq_true, decide_eq_true_eq] at hB
        exact hB.1.1.1.1
      omega) hall hJ)

/-- It has come up: then A. -/
def Fact (l : Array Bool) (i : Nat) (A : Prop) : Prop := l.getD i false = true → A

theorem Fact.keep {l : Array Bool} {i j : Nat} {A : Prop} (h : Fact l j A) (hij : i ≠ j) : Fact (l.setIfInBounds i true) j A := fun e => h (by rwa [getD_set_ne false hij] at e)

theorem Fact.lay {l : Array Bool} {i : Nat} {A : Prop} (h : A) : Fact l i A := fun _ => h

theorem Fact.map {l : Array Bool} {j : Nat} {A B : Prop} (h : Fact l j A) (f : A → B) : Fact l j B := fun e => f (h e)

theorem Fact.no (n j : Nat) (A : Prop) : Fact (Array.replicate n false) j A := fun h => by rw [getD_replicate_false] at h; cases h

theorem Fact.now {l : Array Bool} {n j : Nat} {A : Prop} (h : Fact l j A) (hn : ∀ j, j < n → l.getD j true = true) (hs : n ≤ l.size) (hj : j < n) : A := by
  apply h
  have := hn j hj
  have hl : j < l.size := by omega
  simp [hl] at this ⊢
  exact this

/-- Rows at A, new variables at Bs: none of the rows lies in one of the variables. -/
structure Sep (w0 w : World) (A : List (Option Addr)) (Bs : List Nat) : Prop where
  gr : Gr w0 w
  bs : ∀ B ∈ Bs, w0.heap.size ≤ B ∧ B < w.heap.size
  ro : ∀ x ∈ A, ∃ b off, x = some ⟨b, off, none⟩ ∧ b < w.heap.size ∧ ∀ B ∈ Bs, b ≠ B

theorem Sep.call {w0 w w' : World} {A : List (Option Addr)} {Bs : List Nat} (h : Sep w0 w A Bs) (g : Gr w w') (A' : List (Option Addr)) (hA : ∀ x ∈ A', NewAt w.heap.size x ∧ ∃ b off, x = some ⟨b, off, none⟩ ∧ b < w'.heap.size) : Sep w0 w' (A' ++ A) Bs := by
  refine ⟨h.gr.tr g, fun B hB => ⟨(h.bs B hB).1, Nat.lt_of_lt_of_le (h.bs B hB).2 g.size⟩, fun x hx => ?_⟩
  rcases List.mem_append.1 hx with hx | hx
  · obtain ⟨hn, b, off, e, hb⟩ := hA x hx
    exact ⟨b, off, e, hb, fun B hB => by have := hn b off none e; have := (h.bs B hB).2; omega⟩
  · obtain ⟨b, off, e, hb, hne⟩ := h.ro x hx
    exact ⟨b, off, e, Nat.lt_of_lt_of_le hb g.size, hne⟩

theorem Sep.al {w0 w : World} {A : List (Option Addr)} {Bs : List Nat} (h : Sep w0 w A Bs) (o : Obj) : Sep w0 (w.alloc o) A (w.heap.size :: Bs) := by
  refine ⟨h.gr.tr (Gr.al _ _), fun B hB => ?_, fun x hx => ?_⟩
  · have hs := h.gr.size
    rcases List.mem_cons.1 hB with rfl | hB
    · exact ⟨hs, by simp⟩
    · have := h.bs B hB
      exact ⟨this.1, by simp; omega⟩
  · obtain ⟨b, off, e, hb, hne⟩ := h.ro x hx
    refine ⟨b, off, e, by simp; omega, fun B hB => ?_⟩
    rcases List.mem_cons.1 hB with rfl | hB
    · omega
    · exact hne B hB

theorem Sep.ne {w0 w : World} {A : List (Option Addr)} {Bs : List Nat} (h : Sep w0 w A Bs) {b off : Nat} (ha : some ⟨b, off, none⟩ ∈ A) {B : Nat} (hB : B ∈ Bs) : b ≠ B := by
  obtain ⟨b', off', e, _, hne⟩ := h.ro _ ha
  cases e
  exact hne B hB

theorem RowOf.setAt {α : Type} {sz : Nat} {enc : α → List Value} {w : World} {a : Option Addr} {l : List α} (h : RowOf sz enc w a l) {c : Nat} (hne : ∀ b off, a = some ⟨b, off, none⟩ → b ≠ c) (i : Nat) (v : Value) : RowOf sz enc (w.setCell ⟨c, i, none⟩ v) a l := by
  refine ⟨h.1, fun j x hx => ?_⟩
  obtain ⟨b, off, e, hb, hc⟩ := h.2 j x hx
  exact ⟨b, off, e, by simpa using hb, fun k u hu => by rw [cell_set_ne v (.inl (hne b off e))]; exact hc k u hu⟩

theorem Sep.apart {w0 w : World} {A : List (Option Addr)} {Bs : List Nat} (h : Sep w0 w A Bs) {x : Option Addr} (hx : x ∈ A) {B : Nat} (hB : B ∈ Bs) : ∀ b off, x = some ⟨b, off, none⟩ → b ≠ B := by
  rintro b off rfl
  exact h.ne hx hB

/-- A block of cells, as it was made. -/
def Blk (w : World) (B : Nat) (vs : List Value) (t : TypeId) : Prop := w.heap[B]? = some (.cells vs.toArray t (0, 0))

theorem Blk.new (w : World) (vs : List Value) (t : TypeId) : Blk (w.alloc (.cells vs.toArray t)) w.heap.size vs t := World.alloc_heap_new w _

theorem Blk.keep {w w' : World} {B : Nat} {vs : List Value} {t : TypeId} (h : Blk w B vs t) (g : Gr w w') : Blk w' B vs t := (g.block B (Array.getElem?_eq_some_iff.1 h).1).trans h

theorem Blk.ne {w : World} {B B' : Nat} {vs vs' : List Value} {t t' : TypeId} (h : Blk w B vs t) (h' : Blk w B' vs' t') (ht : t ≠ t') : B ≠ B' := by
  rintro rfl
  have := h.symm.trans h'
  simp at this
  exact ht this.2

theorem Blk.own {w : World} {B : Nat} {vs : List Value} {t : TypeId} (h : Blk w B vs t) : Own w B vs :=
  ⟨⟨(Array.getElem?_eq_some_iff.1 h).1, fun i v hv => by simp only [World.cell?, show w.heap[B]? = _ from h]; simpa using hv⟩, fun i => by simp [World.frozen?, show w.heap[B]? = _ from h]⟩

end Go.Proofs.Ytmioakcbgcgdhaa

namespace Go.Proofs.Ytmioakcbgcgdhaa
set_option linter.unusedVariables false
set_option linter.unusedSimpArgs false
open Go.RowKit

/-- What is said of a value stays while the world grows. -/
def Stays (F : World → Value → Prop) : Prop := ∀ v v' x, Gr v v' → F v x → F v' x

theorem Stays.eq (u : Value) : Stays (fun _ x => x = u) := fun _ _ _ _ h => h

theorem Stays.tr : Stays (fun _ _ => True) := fun _ _ _ _ _ => trivial

/-- x, but u at i. -/
def upd (x : Nat → Value) (i : Nat) (u : Value) (j : Nat) : Value := bif j == i then u else x j

theorem upd_at (x : Nat → Value) (i : Nat) (u : Value) : upd x i u i = u := by simp [upd]

theorem upd_ne (x : Nat → Value) {i j : Nat} (u : Value) (h : j ≠ i) : upd x i u j = x j := by
  have e : (j == i) = false := by simpa using h
  simp [upd, e]

theorem upd_of {x : Nat → Value} {i : Nat} {u : Value} (h : x i = u) : ∃ y, x = upd y i u := ⟨x, by
  funext j
  by_cases e : j = i
  · subst e
    rw [upd_at, h]
  · rw [upd_ne x u e]⟩

theorem wp_region_facts {P : Program} {Q : Exit → Act → World → Prop} {id : Nat} {W : World} {l : List Oper} (n : Nat) (ds : List (Nat × Nat)) (fr : (Nat → Value) → Act) (x0 : Nat → Value) (Fs : List (World → Value → Prop)) {a : Act} (ha : a = fr x0) (hm : P.follows .mixedOrders = true)
    (hB : (decide (n < l.toArray.size) && Region.sinkB .any l.toArray n && Region.chainB .any l.toArray n && minB .any l.toArray n && Region.seqB .any l.toArray (l.toArray.size - n) n (Array.replicate n true ++ Array.replicate (l.toArray.size - n) false)) = true)
    (hD : depB .any l.toArray ds = true)
    (hst : ∀ (i : Nat) (F : World → Value → Prop), Fs[i]? = some F → Stays F)
    (hstep : ∀ i, i < n → ∀ x v, Gr W v → (∀ (j : Nat) (F : World → Value → Prop), (i, j) ∈ ds → Fs[j]? = some F → F v (x j)) → ∀ K : Act → World → Prop, (∀ u v', Gr v v' → (∀ F : World → Value → Prop, Fs[i]? = some F → F v' u) → K (fr (upd x i u)) v') → wpOp P l.toArray Q i K (fr x) v)
    (hend : ∀ x v, Gr W v → (∀ (j : Nat) (F : World → Value → Prop), j < n → Fs[j]? = some F → F v (x j)) → wpList P l.toArray Q (l.drop n) (fr x) v) : (Code.region id l.toArray true).wp P Q a W := by
  subst ha
  refine wp_region_inv' n ds (fun _ listed a v => ∃ x, a = fr x ∧ Gr W v ∧ ∀ (j : Nat) (F : World → Value → Prop), Fs[j]? = some F → listed.getD j false = true → F v (x j)) hm hB hD ⟨x0, rfl, Gr.dr W, fun j F _ h => by rw [getD_replicate_false] at h; cases h⟩ ?_ ?_
  · rintro i hi listed a v hun hdep ⟨x, rfl, gv, hf⟩
    refine hstep i hi x v gv (fun j F hj hF => hf j F hF (hdep j hj)) _ (fun u v' hg hu => ⟨upd x i u, rfl, gv.tr hg, fun j F hF hl => ?_⟩)
    by_cases e : j = i
    · subst e
      rw [upd_at]
      exact hu F hF
    · rw [upd_ne x u e]
      exact hst j F hF v v' _ hg (hf j F hF (by rwa [getD_set_ne false (fun e' => e e'.symm)] at hl))
  · rintro listed a v hs hall ⟨x, rfl, gv, hf⟩
    refine hend x v gv (fun j F hj hF => hf j F hF ?_)
    have h1 := hall j hj
    have hl : j < listed.size := by omega
    simp [hl] at h1 ⊢
    exact h1

/-- What is said of each, one after another. -/
theorem stays_nil : ∀ (i : Nat) (F : World → Value → Prop), ([] : List (World → Value → Prop))[i]? = some F → Stays F := fun i F h => by simp at h

theorem stays_cons {G : World → Value → Prop} {Fs : List (World → Value → Prop)} (h : Stays G) (hs : ∀ (i : Nat) (F : World → Value → Prop), Fs[i]? = some F → Stays F) : ∀ (i : Nat) (F : World → Value → Prop), (G :: Fs)[i]? = some F → Stays F
  | 0, F, e => by simp at e; subst e; exact h
  | i + 1, F, e => hs i F (by simpa using e)

theorem at_of {Fs : List (World → Value → Prop)} {i : Nat} {G : World → Value → Prop} {v : World} {u : Value} (h : Fs[i]? = some G) (hG : G v u) : ∀ F : World → Value → Prop, Fs[i]? = some F → F v u := by
  intro F e
  rw [h] at e
  cases e
  exact hG

end Go.Proofs.Ytmioakcbgcgdhaa
