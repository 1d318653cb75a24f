/- What a region of calls and allocations leaves, whatever the order: rows that lie apart from the new variables. -/
import Derived.Test.YtbohjmogpiaejaaR2
import Derived.Test.YtbohjmogpiaejaaP4
import Derived.Test.YtbohjmogpiaejaaP5
import Derived.RangeFuncBox
namespace Go.Proofs.Ytbohjmogpiaejaa
set_option linter.unusedVariables false
set_option linter.unusedSimpArgs false
open Go.RowKit

theorem wp_region_inv' {P : Program} {Q : Exit → Act → World → Prop} {id : Nat} {a : Act} {w : World} {l : List Oper} (n : Nat) (ds : List (Nat × Nat)) (JJ : Act → Array Bool → Act → World → Prop) (hm : P.follows .mixedOrders = true)
    (hB : (decide (n < l.toArray.size) && Region.sinkB .any l.toArray n && Region.chainB .any l.toArray n && minB .any l.toArray n && Region.seqB .any l.toArray (l.toArray.size - n) n (Array.replicate n true ++ Array.replicate (l.toArray.size - n) false)) = true)
    (hD : depB .any l.toArray ds = true)
    (hJ : JJ a (Array.replicate l.toArray.size false) a w.drew)
    (hstep : ∀ i, i < n → ∀ listed a1 w, listed.getD i true = false → (∀ j, (i, j) ∈ ds → listed.getD j false = true) → JJ a listed a1 w → wpOp P l.toArray Q i (fun a' w' => JJ a (listed.setIfInBounds i true) a' w') a1 w)
    (hend : ∀ listed a1 w, n ≤ listed.size → (∀ j, j < n → listed.getD j true = true) → JJ a listed a1 w → wpList P l.toArray Q (l.drop n) a1 w) : (Code.region id l.toArray true).wp P Q a w :=
  wp_region_inv n (JJ a) hm hB hJ (fun i o hi ho listed a1 w _ hun hdep hJ => hstep i hi listed a1 w hun (fun j hj => by
    obtain ⟨e, he, hb, hj'⟩ := depB_spec hD hj ho
    rw [← hj']
    exact hdep e he hb) hJ)
    (fun listed a1 w hs hall hJ => hend listed a1 w (by
      have h1 : n < l.toArray.size := by
        simp only [Bool.and_eq_true, decide_eq_true_eq] at hB
        exact hB.1.1.1.1
      omega) hall hJ)

/-- It has come up: then A. -/
def Fact (l : Array Bool) (i : Nat) (A : Prop) : Prop := l.getD i false = true → A
theorem Fact.keep {l : Array Bool} {i j : Nat} {A : Prop} (h : Fact l j A) (hij : i ≠ j) : Fact (l.setIfInBounds i true) j A := fun e => h (by rwa [getD_set_ne false hij] at e)
theorem Fact.lay {l : Array Bool} {i : Nat} {A : Prop} (h : A) : Fact l i A := fun _ => h
theorem Fact.map {l : Array Bool} {j : Nat} {A B : Prop} (h : Fact l j A) (f : A → B) : Fact l j B := fun e => f (h e)
theorem Fact.no (n j : Nat) (A : Prop) : Fact (Array.replicate n false) j A := fun h => by rw [getD_replicate_false] at h; cases h
theorem Fact.now {l : Array Bool} {n j : Nat} {A : Prop} (h : Fact l j A) (hn : ∀ j, j < n → l.getD j true = true) (hs : n ≤ l.size) (hj : j < n) : A := by
  apply h
  have := hn j hj
  have hl : j < l.size := by omega
  simp [hl] at this ⊢
  exact this

/-- Rows at A, new variables at Bs: none of the rows lies in one of the variables. -/
structure Sep (w0 w : World) (A : List (Option Addr)) (Bs : List Nat) : Prop where
  gr : Gr w0 w
  bs : ∀ B ∈ Bs, w0.heap.size ≤ B ∧ B < w.heap.size
  ro : ∀ x ∈ A, ∃ b off, x = some ⟨b, off, none⟩ ∧ b < w.heap.size ∧ ∀ B ∈ Bs, b ≠ B

theorem Sep.call {w0 w w' : World} {A : List (Option Addr)} {Bs : List Nat} (h : Sep w0 w A Bs) (g : Gr w w') (A' : List (Option Addr)) (hA : ∀ x ∈ A', NewAt w.heap.size x ∧ ∃ b off, x = some ⟨b, off, none⟩ ∧ b < w'.heap.size) : Sep w0 w' (A' ++ A) Bs := by
  refine ⟨h.gr.tr g, fun B hB => ⟨(h.bs B hB).1, Nat.lt_of_lt_of_le (h.bs B hB).2 g.size⟩, fun x hx => ?_⟩
  rcases List.mem_append.1 hx with hx | hx
  · obtain ⟨hn, b, off, e, hb⟩ := hA x hx
    exact ⟨b, off, e, hb, fun B hB => by have := hn b off none e; have := (h.bs B hB).2; omega⟩
  · obtain ⟨b, off, e, hb, hne⟩ := h.ro x hx
    exact ⟨b, off, e, Nat.lt_of_lt_of_le hb g.size, hne⟩
theorem Sep.al {w0 w : World} {A : List (Option Addr)} {Bs : List Nat} (h : Sep w0 w A Bs) (o : Obj) : Sep w0 (w.alloc o) A (w.heap.size :: Bs) := by
  refine ⟨h.gr.tr (Gr.al _ _), fun B hB => ?_, fun x hx => ?_⟩
  · have hs := h.gr.size
    rcases List.mem_cons.1 hB with rfl | hB
    · exact ⟨hs, by simp⟩
    · have := h.bs B hB
      exact ⟨this.1, by simp; omega⟩
  · obtain ⟨b, off, e, hb, hne⟩ := h.ro x hx
    refine ⟨b, off, e, by simp; omega, fun B hB => ?_⟩
    rcases List.mem_cons.1 hB with rfl | hB
    · omega
    · exact hne B hB
theorem Sep.ne {w0 w : World} {A : List (Option Addr)} {Bs : List Nat} (h : Sep w0 w A Bs) {b off : Nat} (ha : some ⟨b, off, none⟩ ∈ A) {B : Nat} (hB : B ∈ Bs) : b ≠ B := by
  obtain ⟨b', off', e, _, hne⟩ := h.ro _ ha
  cases e
  exact hne B hB

theorem RowOf.setAt {α : Type} {sz : Nat} {enc : α → List Value} {w : World} {a : Option Addr} {l : List α} (h : RowOf sz enc w a l) {c : Nat} (hne : ∀ b off, a = some ⟨b, off, none⟩ → b ≠ c) (i : Nat) (v : Value) : RowOf sz enc (w.setCell ⟨c, i, none⟩ v) a l := by
  refine ⟨h.1, fun j x hx => ?_⟩
  obtain ⟨b, off, e, hb, hc⟩ := h.2 j x hx
  exact ⟨b, off, e, by simpa using hb, fun k u hu => by rw [cell_set_ne v (.inl (hne b off e))]; exact hc k u hu⟩
theorem Sep.apart {w0 w : World} {A : List (Option Addr)} {Bs : List Nat} (h : Sep w0 w A Bs) {x : Option Addr} (hx : x ∈ A) {B : Nat} (hB : B ∈ Bs) : ∀ b off, x = some ⟨b, off, none⟩ → b ≠ B := by
  rintro b off rfl
  exact h.ne hx hB

/-- A block of cells, as it was made. -/
def Blk (w : World) (B : Nat) (vs : List Value) (t : TypeId) : Prop := w.heap[B]? = some (.cells vs.toArray t (0, 0))
theorem Blk.new (w : World) (vs : List Value) (t : TypeId) : Blk (w.alloc (.cells vs.toArray t)) w.heap.size vs t := World.alloc_heap_new w _
theorem Blk.keep {w w' : World} {B : Nat} {vs : List Value} {t : TypeId} (h : Blk w B vs t) (g : Gr w w') : Blk w' B vs t := (g.block B (Array.getElem?_eq_some_iff.1 h).1).trans h
theorem Blk.ne {w : World} {B B' : Nat} {vs vs' : List Value} {t t' : TypeId} (h : Blk w B vs t) (h' : Blk w B' vs' t') (ht : t ≠ t') : B ≠ B' := by
  rintro rfl
  have := h.symm.trans h'
  simp at this
  exact ht this.2
theorem Blk.own {w : World} {B : Nat} {vs : List Value} {t : TypeId} (h : Blk w B vs t) : Own w B vs :=
  ⟨⟨(Array.getElem?_eq_some_iff.1 h).1, fun i v hv => by simp only [World.cell?, show w.heap[B]? = _ from h]; simpa using hv⟩, fun i => by simp [World.frozen?, show w.heap[B]? = _ from h]⟩

def CStore (ps : List Paper) (fs : List Flute) (v : World) (A : List (Option Addr)) (t : Value) : Prop := ∃ a ac g gc, t = .agg #[.slice a ps.length ac, .slice g fs.length gc] ∧ PRow v a ps ∧ FRow v g fs ∧ a ∈ A ∧ g ∈ A
def CMade (mp mf : List Int) (v : World) (A : List (Option Addr)) (t : Value) : Prop := ∃ a ac g gc, t = .agg #[.slice a mp.length ac, .slice g mf.length gc] ∧ IRow v a mp ∧ IRow v g mf ∧ a ∈ A ∧ g ∈ A
def CBlank (tab hei slo : Int) (pan top bot : List Int) (opn : Bool) (v : World) (A : List (Option Addr)) (t : Value) : Prop := ∃ pa pc ta tc ba bc, t = .agg #[.int .i64 tab, .slice pa pan.length pc, .int .i64 hei, .slice ta top.length tc, .slice ba bot.length bc, .int .i64 slo, .bool opn] ∧ IRow v pa pan ∧ IRow v ta top ∧ IRow v ba bot ∧ pa ∈ A ∧ ta ∈ A ∧ ba ∈ A
def CPtr (zs : List Value) (ty : TypeId) (v : World) (Bs : List Nat) (t : Value) : Prop := ∃ B, t = .pointer (some ⟨B, 0, none⟩) ∧ B ∈ Bs ∧ Blk v B zs ty
theorem CStore.up {ps : List Paper} {fs : List Flute} {v v' : World} {A A' : List (Option Addr)} {t : Value} (h : CStore ps fs v A t) (g : Gr v v') (hA : ∀ x ∈ A, x ∈ A') : CStore ps fs v' A' t := by
  obtain ⟨a, ac, b, bc, e, r1, r2, m1, m2⟩ := h
  exact ⟨a, ac, b, bc, e, r1.grow g, r2.grow g, hA _ m1, hA _ m2⟩
theorem CMade.up {mp mf : List Int} {v v' : World} {A A' : List (Option Addr)} {t : Value} (h : CMade mp mf v A t) (g : Gr v v') (hA : ∀ x ∈ A, x ∈ A') : CMade mp mf v' A' t := by
  obtain ⟨a, ac, b, bc, e, r1, r2, m1, m2⟩ := h
  exact ⟨a, ac, b, bc, e, r1.grow g, r2.grow g, hA _ m1, hA _ m2⟩
theorem CBlank.up {tab hei slo : Int} {pan top bot : List Int} {opn : Bool} {v v' : World} {A A' : List (Option Addr)} {t : Value} (h : CBlank tab hei slo pan top bot opn v A t) (g : Gr v v') (hA : ∀ x ∈ A, x ∈ A') : CBlank tab hei slo pan top bot opn v' A' t := by
  obtain ⟨pa, pc, ta, tc, ba, bc, e, r1, r2, r3, m1, m2, m3⟩ := h
  exact ⟨pa, pc, ta, tc, ba, bc, e, r1.grow g, r2.grow g, r3.grow g, hA _ m1, hA _ m2, hA _ m3⟩
theorem CPtr.up {zs : List Value} {ty : TypeId} {v v' : World} {Bs Bs' : List Nat} {t : Value} (h : CPtr zs ty v Bs t) (g : Gr v v') (hB : ∀ x ∈ Bs, x ∈ Bs') : CPtr zs ty v' Bs' t := by
  obtain ⟨B, e, m, k⟩ := h
  exact ⟨B, e, hB _ m, k.keep g⟩
theorem CPtr.new (w : World) (zs : List Value) (ty : TypeId) (Bs : List Nat) : CPtr zs ty (w.alloc (.cells zs.toArray ty)) (w.heap.size :: Bs) (.pointer (some ⟨w.heap.size, 0, none⟩)) := ⟨_, rfl, by simp, Blk.new w zs ty⟩
theorem Sep.st {w0 w : World} {A : List (Option Addr)} {Bs : List Nat} (h : Sep w0 w A Bs) {B : Nat} (hB : B ∈ Bs) (i : Nat) (u : Value) : Sep w0 (w.setCell ⟨B, i, none⟩ u) A Bs :=
  ⟨h.gr.setCell (h.bs B hB).1 u, fun C hC => ⟨(h.bs C hC).1, by simpa using (h.bs C hC).2⟩, fun x hx => by
    obtain ⟨b, off, e, hb, hne⟩ := h.ro x hx
    exact ⟨b, off, e, by simpa using hb, hne⟩⟩
theorem CStore.st {w0 v : World} {A : List (Option Addr)} {Bs : List Nat} {ps : List Paper} {fs : List Flute} {t : Value} (h : CStore ps fs v A t) (hs : Sep w0 v A Bs) {B : Nat} (hB : B ∈ Bs) (i : Nat) (u : Value) : CStore ps fs (v.setCell ⟨B, i, none⟩ u) A t := by
  obtain ⟨a, ac, b, bc, e, r1, r2, m1, m2⟩ := h
  exact ⟨a, ac, b, bc, e, r1.setAt (hs.apart m1 hB) i u, r2.setAt (hs.apart m2 hB) i u, m1, m2⟩
theorem CMade.st {w0 v : World} {A : List (Option Addr)} {Bs : List Nat} {mp mf : List Int} {t : Value} (h : CMade mp mf v A t) (hs : Sep w0 v A Bs) {B : Nat} (hB : B ∈ Bs) (i : Nat) (u : Value) : CMade mp mf (v.setCell ⟨B, i, none⟩ u) A t := by
  obtain ⟨a, ac, b, bc, e, r1, r2, m1, m2⟩ := h
  exact ⟨a, ac, b, bc, e, r1.setAt (hs.apart m1 hB) i u, r2.setAt (hs.apart m2 hB) i u, m1, m2⟩

/-- A pointer to a new variable of two cells, whatever they hold. -/
def CTwo (v : World) (Bs : List Nat) (t : Value) : Prop := ∃ B x y, t = .pointer (some ⟨B, 0, none⟩) ∧ B ∈ Bs ∧ Own v B [x, y]
theorem CTwo.up {v v' : World} {Bs Bs' : List Nat} {t : Value} (h : CTwo v Bs t) (g : Gr v v') (hB : ∀ x ∈ Bs, x ∈ Bs') : CTwo v' Bs' t := by
  obtain ⟨B, x, y, e, m, k⟩ := h
  exact ⟨B, x, y, e, hB _ m, k.keep g⟩
theorem CTwo.new (w : World) (x y : Value) (ty : TypeId) (Bs : List Nat) : CTwo (w.alloc (.cells #[x, y] ty)) (w.heap.size :: Bs) (.pointer (some ⟨w.heap.size, 0, none⟩)) := ⟨_, x, y, rfl, by simp, Own.new w [x, y] ty w.heap.size rfl⟩
theorem CTwo.st {v : World} {Bs : List Nat} {t : Value} (h : CTwo v Bs t) (C : Nat) (u0 u1 : Value) : CTwo ((v.setCell ⟨C, 0, none⟩ u0).setCell ⟨C, 1, none⟩ u1) Bs t := by
  obtain ⟨B, x, y, e, m, k⟩ := h
  by_cases hc : B = C
  · subst hc
    exact ⟨B, u0, u1, e, m, (k.set (i := 0) (v := u0) (by simp)).set (i := 1) (v := u1) (by simp)⟩
  · exact ⟨B, x, y, e, m, (k.other hc).other hc⟩
/-- .. and what it holds. -/
def CTold (vs : List Value) (v : World) (t : Value) : Prop := ∃ B, t = .pointer (some ⟨B, 0, none⟩) ∧ Box v B vs
theorem CTold.up {vs : List Value} {v v' : World} {t : Value} (h : CTold vs v t) (g : Gr v v') : CTold vs v' t := by
  obtain ⟨B, e, k⟩ := h
  exact ⟨B, e, k.keep g⟩

theorem two_new {m : Nat} {w : World} {a g : Option Addr} (n1 : NewAt m a) (n2 : NewAt m g) (h1 : ∃ b off, a = some ⟨b, off, none⟩ ∧ b < w.heap.size) (h2 : ∃ b off, g = some ⟨b, off, none⟩ ∧ b < w.heap.size) :
    ∀ x ∈ [a, g], NewAt m x ∧ ∃ b off, x = some ⟨b, off, none⟩ ∧ b < w.heap.size := by
  intro x hx
  rcases List.mem_cons.1 hx with rfl | hx
  · exact ⟨n1, h1⟩
  · rcases List.mem_singleton.1 hx with rfl
    exact ⟨n2, h2⟩
theorem three_new {m : Nat} {w : World} {a g k : Option Addr} (n1 : NewAt m a) (n2 : NewAt m g) (n3 : NewAt m k) (h1 : ∃ b off, a = some ⟨b, off, none⟩ ∧ b < w.heap.size) (h2 : ∃ b off, g = some ⟨b, off, none⟩ ∧ b < w.heap.size) (h3 : ∃ b off, k = some ⟨b, off, none⟩ ∧ b < w.heap.size) :
    ∀ x ∈ [a, g, k], NewAt m x ∧ ∃ b off, x = some ⟨b, off, none⟩ ∧ b < w.heap.size := by
  intro x hx
  rcases List.mem_cons.1 hx with rfl | hx
  · exact ⟨n1, h1⟩
  · exact two_new n2 n3 h2 h3 x hx
theorem mem_app {α : Type} (A' A : List α) : ∀ x ∈ A, x ∈ A' ++ A := fun _ h => List.mem_append_right _ h
theorem mem_con {α : Type} (B : α) (A : List α) : ∀ x ∈ A, x ∈ B :: A := fun _ h => List.mem_cons_of_mem _ h
theorem mem_same {α : Type} (A : List α) : ∀ x ∈ A, x ∈ A := fun _ h => h

end Go.Proofs.Ytbohjmogpiaejaa
