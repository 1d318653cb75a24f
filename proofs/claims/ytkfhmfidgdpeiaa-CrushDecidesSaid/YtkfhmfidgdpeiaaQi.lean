/- A range over a function where both the iterator and the rounds keep memory: each says which blocks it may turn; neither turns the other's. The statement itself: an outermost loop; a loop within a round. Append onto a row: its block behind the append is the row's own or a new one. crush's loads: the iterator's contract. -/
import Derived.Test.YtkfhmfidgdpeiaaQa
import Derived.RangeFuncNested
import Derived.OwnWalkIn
import Derived.Test.YtkfhmfidgdpeiaaQk
import Derived.RangeFuncBound
import Derived.RangeFuncCalls
import Derived.RangeFuncLeaves
import Derived.Shelf.Abstract
import Derived.Shelf.RegionOpen
import Derived.TacticsInMore
import Derived.LoopNIn
import Derived.LoopIn
namespace Go.Proofs.Ytkfhmfidgdpeiaa
open Go.RowKit

/-- Whatever lay in W, but for the blocks of Z, lies in W' as it lay. -/
structure Kx (Z : Nat → Prop) (W W' : World) : Prop where
  os : W'.os = W.os
  tape : W'.tape = W.tape
  output : W'.output = W.output
  size : W.heap.size ≤ W'.heap.size
  block : ∀ k, k < W.heap.size → ¬ Z k → W'.heap[k]? = W.heap[k]?

abbrev noBlock : Nat → Prop := fun _ => False

theorem Kx.refl (Z : Nat → Prop) (W : World) : Kx Z W W := ⟨rfl, rfl, rfl, Nat.le_refl _, fun _ _ _ => rfl⟩

theorem Kx.th {Z Z' : Nat → Prop} {a b c : World} (h : Kx Z a b) (k : Kx Z' b c) (hz : ∀ i, Z' i → Z i ∨ a.heap.size ≤ i) : Kx Z a c :=
  ⟨k.os.trans h.os, k.tape.trans h.tape, k.output.trans h.output, Nat.le_trans h.size k.size, fun i hi hn =>
    (k.block i (Nat.lt_of_lt_of_le hi h.size) (fun e => by rcases hz i e with e | e; exact hn e; omega)).trans (h.block i hi hn)⟩

theorem Kx.tr {Z : Nat → Prop} {a b c : World} (h : Kx Z a b) (k : Kx Z b c) : Kx Z a c := h.th k fun _ e => .inl e

theorem Kx.mono {Z Z' : Nat → Prop} {a b : World} (h : Kx Z a b) (hz : ∀ i, Z i → Z' i ∨ a.heap.size ≤ i) : Kx Z' a b :=
  (Kx.refl Z' a).th h hz

theorem Kx.gr {Z : Nat → Prop} {a b : World} (h : Gr a b) : Kx Z a b := ⟨h.os, h.tape, h.output, h.size, fun i hi _ => h.block i hi⟩

theorem Kx.al (Z : Nat → Prop) (w : World) (o : Obj) : Kx Z w (w.alloc o) := .gr (Gr.al w o)

theorem Kx.dr (Z : Nat → Prop) (w : World) : Kx Z w w.drew := ⟨rfl, rfl, rfl, Nat.le_refl _, fun _ _ _ => rfl⟩

theorem Kx.put {Z : Nat → Prop} {w : World} {l : Nat} (h : Z l) (o : Obj) : Kx Z w (w.putObj l o) :=
  ⟨rfl, rfl, rfl, by simp, fun k _ hk => World.putObj_heap_other (fun e => hk (e ▸ h))⟩

theorem Kx.set {Z : Nat → Prop} {w : World} {p : Addr} (h : Z p.block) (v : Value) : Kx Z w (w.setCell p v) :=
  ⟨rfl, rfl, rfl, by simp [World.setCell], fun k _ hk => Below.heap_setCell _ _ _ _ (fun e => hk (e ▸ h))⟩

theorem Kx.grown {Z : Nat → Prop} {w w' : World} {row : Option Nat} (hg : w.grownBy w' row) (h : ∀ r, row = some r → Z r ∨ w.heap.size ≤ r) : Kx Z w w' :=
  ⟨hg.os, hg.tape, hg.output, hg.size, fun k hk hz => hg.block k hk (fun e => by rcases h k e.symm with h | h; exact hz h; omega)⟩

theorem Kx.toGr {w w' : World} (h : Kx noBlock w w') : Gr w w' := ⟨h.os, h.tape, h.output, h.size, fun k hk => h.block k hk (fun e => e)⟩

theorem Kx.keepO {Z : Nat → Prop} {w w' : World} (h : Kx Z w w') {k : Nat} {o : Obj} (ho : w.heap[k]? = some o) (hz : ¬ Z k) : w'.heap[k]? = some o :=
  (h.block k (Array.getElem?_eq_some_iff.1 ho).1 hz).trans ho

/-- What holds whatever the holder of Y's blocks does. -/
def Ab (J : (Nat → Prop) → World → Prop) : Prop :=
  ∀ Y Y' A B, J Y A → Kx Y A B → (∀ k, Y' k → Y k ∨ A.heap.size ≤ k) → J Y' B

/-- The rounds' blocks and the iterator's are blocks of W, and none is both's. -/
structure Dj (X Y : Nat → Prop) (W : World) : Prop where
  x : ∀ k, X k → k < W.heap.size
  y : ∀ k, Y k → k < W.heap.size
  n : ∀ k, X k → ¬ Y k

variable {F : Fence} {n : Nat} {P : Program}

/-- An iterator's contract: of what lay in w0 it reads nothing in Z0's blocks; Good Z x W: x is at hand in W and stays so whoever turns Z's blocks. -/
def SeqX {α : Type} (F : Fence) (n : Nat) (P : Program) (g : Nat) (lb : Array Value) (encs : α → Array Value) (Good : List α → (Nat → Prop) → α → World → Prop) (S Sp : List α → Prop) (Z0 : Nat → Prop) (w0 : World) : Prop :=
  ∀ (l : Nat) (J : List α → (Nat → Prop) → (Nat → Prop) → World → Prop) (Jx : List α → (Nat → Prop) → World → Prop) (X0 : Nat → Prop) (W : World),
    Kx Z0 w0 W → (∀ k, X0 k → k < W.heap.size ∧ (Z0 k ∨ w0.heap.size ≤ k)) → (∀ s X, Ab (J s X)) → (∀ s, Ab (Jx s)) →
    (∀ pre x X Y W1, J pre X Y W1 → Good pre (fun k => X k ∨ Y k) x W1 → Dj X Y W1 → YieldAt F (n - 1) P l (encs x) W1 fun e W' => Kx X W1 W' ∧
      ((e = .returned (.bool true) ∧ ∃ X', J (pre ++ [x]) X' Y W' ∧ ∀ k, X' k → k < W'.heap.size ∧ (X k ∨ W1.heap.size ≤ k)) ∨ (e = .returned (.bool false) ∧ Jx (pre ++ [x]) Y W'))) →
    J [] X0 noBlock W →
    CallsIn F n P g (#[.func (.yield l) #[] #[]] ++ lb) W fun e W' => (∃ v, e = .returned v) ∧ ((∃ xs X Y, S xs ∧ J xs X Y W') ∨ (∃ pre Y, Sp pre ∧ Jx pre Y W'))

/-- How the body of a round may be left. -/
def postX {α : Type} (I : List α → (Nat → Prop) → (Nat → Prop) → World → Prop) (Ix : Code → List α → (Nat → Prop) → World → Prop) (xs : List α) (X Y : Nat → Prop) (W : World) : Exit → Act → World → Prop
  | .normal, _, W' => Kx X W W' ∧ ∃ X', I xs X' Y W' ∧ ∀ k, X' k → k < W'.heap.size ∧ (X k ∨ W.heap.size ≤ k)
  | .ret, _, W' => Kx X W W' ∧ Ix .ret xs Y W'
  | .exit id, _, W' => Kx X W W' ∧ Ix (.exit id) xs Y W'
  | .goto t, _, W' => Kx X W W' ∧ Ix (.goto t) xs Y W'
  | .panic _, _, _ => False
  | .outgrown, _, _ => False

/-- The iterator's call, the record l laid and block D holding o (which nobody turns). -/
theorem seqX_core {α : Type} {ps : Array Tmp} {assign body : Code} {tmps : Array Value} {fn : FuncId} (hfn : F.fn fn) (rec : LoopState → Option Code → Loop) (dd l D : Nat) (o : Obj) (T : Nat → Prop) (hTl : T l) (hT : ∀ k, T k → k = l ∨ k = D)
    (hrec : rec = fun st pe => { state := st, pending := pe, fn, tmps, params := ps, assign, body, defers := dd })
    {gf : Nat} {lb : Array Value} {encs : α → Array Value} {Good : List α → (Nat → Prop) → α → World → Prop} {S Sp : List α → Prop} {Z0 : Nat → Prop} {w0 W0 : World} (hseq : SeqX F (n - 1) P gf lb encs Good S Sp Z0 w0)
    (hk0 : Kx Z0 w0 W0) (hps : ∀ x, (encs x).size = ps.size)
    (hlD : D ≠ l) (hL0 : W0.heap[l]? = some (.loop (rec .ready none))) (hD0 : W0.heap[D]? = some o)
    (X0 : Nat → Prop) (hX0 : ∀ k, X0 k → k < W0.heap.size ∧ (Z0 k ∨ w0.heap.size ≤ k)) (hXl : ¬ X0 l) (hXD : ¬ X0 D) (hT0 : ∀ k, T k → w0.heap.size ≤ k)
    (I : List α → (Nat → Prop) → (Nat → Prop) → World → Prop) (Ix : Code → List α → (Nat → Prop) → World → Prop) (hI : ∀ s X, Ab (I s X)) (hIx : ∀ c s, Ab (Ix c s)) (h0 : I [] X0 T W0)
    (A : List α → α → Act → (Nat → Prop) → (Nat → Prop) → World → Prop) (hA : ∀ s x a X, Ab (A s x a X))
    (hassign : ∀ (pre : List α) (x : α) (X Y : Nat → Prop) (W : World) (K : Act → World → Prop), I pre X Y W → Good pre (fun k => X k ∨ Y k) x W → Dj X Y W →
      (∀ a' X' W', A pre x a' X' Y W' → Kx X W W' → (∀ k, X' k → k < W'.heap.size ∧ (X k ∨ W.heap.size ≤ k)) → K a' W') →
      assign.wpIn (F.inRound l) (n - 1 - 1) P (Exit.then K (fun _ _ _ => False)) { tmps := (ps.zip (encs x)).foldl (fun t (p, v) => t.setIfInBounds p v) tmps, defers := [] } W)
    (hbody : ∀ (pre : List α) (x : α) (a' : Act) (X Y : Nat → Prop) (W : World), A pre x a' X Y W → Dj X Y W → Y l → (∃ r, W.heap[l]? = some (.loop r)) →
      body.wpIn (F.inRound l) (n - 1 - 1) P (postX I Ix (pre ++ [x]) X Y W) a' W) :
    CallsIn F (n - 1) P gf (#[.func (.yield l) #[] #[]] ++ lb) W0 fun e W2 => ∃ v, e = .returned v ∧
      ((∃ xs X Y, S xs ∧ I xs X Y W2 ∧ (∀ k, T k → Y k) ∧ W2.heap[l]? = some (.loop (rec .ready none)) ∧ W2.heap[D]? = some o) ∨
       (∃ pre Y c, Sp pre ∧ Ix c pre Y W2 ∧ (∀ k, T k → Y k) ∧ W2.heap[l]? = some (.loop (rec .done (some c))) ∧ W2.heap[D]? = some o)) := by
  have hl0 : l < W0.heap.size := (Array.getElem?_eq_some_iff.1 hL0).1
  have hd0 : D < W0.heap.size := (Array.getElem?_eq_some_iff.1 hD0).1
  refine (hseq l
    (fun pre Xi Y W => ∃ X, Xi = (fun k => X k ∨ T k) ∧ I pre X (fun k => Y k ∨ T k) W ∧ W.heap[l]? = some (.loop (rec .ready none)) ∧ W.heap[D]? = some o ∧ ¬ Y l ∧ ¬ Y D ∧ ¬ X l ∧ ¬ X D)
    (fun pre Y W => ∃ c, Ix c pre (fun k => Y k ∨ T k) W ∧ W.heap[l]? = some (.loop (rec .done (some c))) ∧ W.heap[D]? = some o ∧ ¬ Y l ∧ ¬ Y D)
    (fun k => X0 k ∨ T k) W0 hk0 ?_ ?_ ?_ ?_ ?_).mono ?_
  · rintro k (h | h)
    · exact hX0 k h
    · exact ⟨by rcases hT k h with e | e <;> (rw [e]; assumption), .inr (hT0 k h)⟩
  · rintro s Xi Y Y' B C ⟨X, hXi, hi, hl, hd, h1, h2, h3, h4⟩ hk hy
    refine ⟨X, hXi, hI s X _ _ _ _ hi (hk.mono fun i e => .inl (.inl e)) ?_, hk.keepO hl h1, hk.keepO hd h2, ?_, ?_, h3, h4⟩
    · rintro k (e | e)
      · rcases hy k e with e | e
        · exact .inl (.inl e)
        · exact .inr e
      · exact .inl (.inr e)
    · intro e
      rcases hy l e with e | e
      · exact h1 e
      · have := (Array.getElem?_eq_some_iff.1 hl).1; omega
    · intro e
      rcases hy D e with e | e
      · exact h2 e
      · have := (Array.getElem?_eq_some_iff.1 hd).1; omega
  · rintro s Y Y' B C ⟨c, hi, hl, hd, h1, h2⟩ hk hy
    refine ⟨c, hIx c s _ _ _ _ hi (hk.mono fun i e => .inl (.inl e)) ?_, hk.keepO hl h1, hk.keepO hd h2, ?_, ?_⟩
    · rintro k (e | e)
      · rcases hy k e with e | e
        · exact .inl (.inl e)
        · exact .inr e
      · exact .inl (.inr e)
    · intro e
      rcases hy l e with e | e
      · exact h1 e
      · have := (Array.getElem?_eq_some_iff.1 hl).1; omega
    · intro e
      rcases hy D e with e | e
      · exact h2 e
      · have := (Array.getElem?_eq_some_iff.1 hd).1; omega
  · -- ONE ROUND
    rintro pre x Xi Y W ⟨X, rfl, hi, hl, hd, hYl, hYD, hXl, hXD⟩ hg hdj
    have hlt : l < W.heap.size := (Array.getElem?_eq_some_iff.1 hl).1
    have hdt : D < W.heap.size := (Array.getElem?_eq_some_iff.1 hd).1
    have hy := run_yield (P := P) (args := encs x) hl (by rw [hrec]; exact hps x)
    rw [hrec] at hy
    have hgz : Good pre (fun k => X k ∨ (Y k ∨ T k)) x W := by
      have e : (fun k => (X k ∨ T k) ∨ Y k) = fun k => X k ∨ (Y k ∨ T k) := by
        funext k
        exact propext ⟨fun h => by rcases h with (h | h) | h; exact .inl h; exact .inr (.inr h); exact .inr (.inl h), fun h => by rcases h with h | h | h; exact .inl (.inl h); exact .inr h; exact .inl (.inr h)⟩
      rw [← e]; exact hg
    have hTW : ∀ k, T k → k < W.heap.size := fun k e => by rcases hT k e with e | e <;> (rw [e]; assumption)
    have hTX : ∀ k, T k → ¬ X k := fun k e => by rcases hT k e with e | e <;> (rw [e]; assumption)
    have hdj' : Dj X (fun k => Y k ∨ T k) W := ⟨fun k e => hdj.x k (.inl e), fun k e => by rcases e with e | e; exact hdj.y k e; exact hTW k e, fun k e h => by
      rcases h with h | h
      · exact hdj.n k (.inl e) h
      · exact hTX k h e⟩
    refine ⟨fn, _, assign, body, hy, roundIn_of_wpIn hfn (hassign pre x X _ W _ hi hgz hdj' ?_)⟩
    clear hy
    intro a' X1 Wa ha hka hx1
    have hnl : ¬ X1 l := fun e => by rcases (hx1 l e).2 with h | h; exact hXl h; omega
    have hnD : ¬ X1 D := fun e => by rcases (hx1 D e).2 with h | h; exact hXD h; omega
    have hla := hka.keepO hl hXl
    have hda := hka.keepO hd hXD
    have hlta : l < Wa.heap.size := (Array.getElem?_eq_some_iff.1 hla).1
    refine ⟨_, run_beginRound hla (by rw [hrec]), ?_⟩
    obtain ⟨W2, hW2⟩ : ∃ W2, Wa.putObj l (.loop { rec .ready none with state := .busy }) = W2 := ⟨_, rfl⟩
    rw [hW2]
    have hsz2 : W2.heap.size = Wa.heap.size := by rw [← hW2]; simp
    have hl2 : W2.heap[l]? = some (.loop { rec .ready none with state := .busy }) := by rw [← hW2]; exact World.putObj_heap_same hlta
    have hd2 : W2.heap[D]? = some o := by rw [← hW2]; exact (World.putObj_heap_other hlD).trans hda
    have hk2 : ∀ Z : Nat → Prop, Z l → Kx Z Wa W2 := fun Z hz => by rw [← hW2]; exact Kx.put hz _
    have ha2 : A pre x a' X1 (fun k => Y k ∨ T k) W2 := hA pre x a' X1 _ _ _ _ ha (hk2 _ (.inr hTl)) fun k e => .inl e
    have hdj2 : Dj X1 (fun k => Y k ∨ T k) W2 := by
      refine ⟨fun k e => hsz2 ▸ (hx1 k e).1, fun k e => ?_, fun k e h => ?_⟩
      · have := hka.size
        rcases e with e | e
        · have := hdj.y k e; omega
        · have := hTW k e; omega
      · rcases (hx1 k e).2 with h' | h'
        · rcases h with h | h
          · exact hdj.n k (.inl h') h
          · exact hTX k h h'
        · rcases h with h | h
          · have := hdj.y k h; omega
          · have := hTW k h; omega
    refine wpIn_mono (hbody pre x a' X1 _ W2 ha2 hdj2 (.inr hTl) ⟨_, hl2⟩) ?_
    have fin : ∀ (jump : Option Code) (W3 : World), Kx X1 W2 W3 → ∃ W4, W4 = W3.putObj l (.loop (rec (if jump.isNone then .ready else .done) jump)) ∧
        (Instr.endRound l jump).run P W3 = .ok (.bool jump.isNone) W4 ∧ W4.heap[l]? = some (.loop (rec (if jump.isNone then .ready else .done) jump)) ∧ W4.heap[D]? = some o ∧ W4.heap.size = W3.heap.size ∧
        (∀ Z : Nat → Prop, Z l → Kx Z W3 W4) ∧ Kx (fun k => X k ∨ T k) W W4 := fun jump W3 hk3 => by
      have hl3 := hk3.keepO hl2 hnl
      have hd3 := hk3.keepO hd2 hnD
      have hr := run_endRound (P := P) jump hl3
      have hk4 : ∀ Z : Nat → Prop, Z l → Kx Z W3 (W3.putObj l (.loop (rec (if jump.isNone then .ready else .done) jump))) := fun Z hz => Kx.put hz _
      refine ⟨_, rfl, ?_, World.putObj_heap_same (Array.getElem?_eq_some_iff.1 hl3).1, (World.putObj_heap_other hlD).trans hd3, by simp, hk4, ?_⟩
      · rw [hrec] at hr ⊢; exact hr
      · have s1 : Kx (fun k => X k ∨ T k) W Wa := hka.mono fun i e => .inl (.inl e)
        have s2 : Kx (fun k => X k ∨ T k) W W2 := s1.tr (hk2 _ (.inr hTl))
        have s3 : Kx (fun k => X k ∨ T k) W W3 := s2.th hk3 fun i e => by rcases (hx1 i e).2 with h | h; exact .inl (.inl h); exact .inr h
        exact s3.tr (hk4 _ (.inr hTl))
    rintro e a3 W3 hp
    cases e with
    | normal =>
      obtain ⟨hk3, X', hi3, hx'⟩ := hp
      obtain ⟨W4, _, hr, hl4, hd4, hs4, hk4, hkk⟩ := fin none W3 hk3
      refine ⟨_, _, hr, hkk, .inl ⟨rfl, fun k => X' k ∨ T k, ⟨X', rfl, hI _ X' _ _ _ _ hi3 (hk4 _ (.inr hTl)) (fun k e => .inl e), hl4, hd4, hYl, hYD, ?_, ?_⟩, ?_⟩⟩
      · intro e; rcases (hx' l e).2 with h | h; exact hnl h; omega
      · intro e; have := hka.size; rcases (hx' D e).2 with h | h; exact hnD h; omega
      · have h1 := hka.size
        have h2 := hk3.size
        rintro k (e | e)
        · obtain ⟨b1, b2⟩ := hx' k e
          refine ⟨by omega, ?_⟩
          rcases b2 with b2 | b2
          · rcases (hx1 k b2).2 with h | h
            · exact .inl (.inl h)
            · exact .inr h
          · exact .inr (by omega)
        · exact ⟨by have := hTW k e; have := hka.size; omega, .inl (.inr e)⟩
    | ret =>
      obtain ⟨hk3, hi3⟩ := hp
      obtain ⟨W4, _, hr, hl4, hd4, hs4, hk4, hkk⟩ := fin (some .ret) W3 hk3
      exact ⟨_, _, hr, hkk, .inr ⟨rfl, .ret, hIx _ _ _ _ _ _ hi3 (hk4 _ (.inr hTl)) (fun k e => .inl e), hl4, hd4, hYl, hYD⟩⟩
    | exit id =>
      obtain ⟨hk3, hi3⟩ := hp
      obtain ⟨W4, _, hr, hl4, hd4, hs4, hk4, hkk⟩ := fin (some (.exit id)) W3 hk3
      exact ⟨_, _, hr, hkk, .inr ⟨rfl, .exit id, hIx _ _ _ _ _ _ hi3 (hk4 _ (.inr hTl)) (fun k e => .inl e), hl4, hd4, hYl, hYD⟩⟩
    | goto t =>
      obtain ⟨hk3, hi3⟩ := hp
      obtain ⟨W4, _, hr, hl4, hd4, hs4, hk4, hkk⟩ := fin (some (.goto t)) W3 hk3
      exact ⟨_, _, hr, hkk, .inr ⟨rfl, .goto t, hIx _ _ _ _ _ _ hi3 (hk4 _ (.inr hTl)) (fun k e => .inl e), hl4, hd4, hYl, hYD⟩⟩
    | panic ch => exact hp.elim
    | outgrown => exact hp.elim
  · refine ⟨X0, rfl, ?_, hL0, hD0, fun e => e, fun e => e, hXl, hXD⟩
    have e : (fun k => noBlock k ∨ T k) = T := by funext k; exact propext ⟨fun h => h.resolve_left fun e => e, .inr⟩
    rw [e]; exact h0
  · rintro e W2 ⟨⟨v, rfl⟩, (⟨xs, Xi, Y, hS, X, rfl, hi, hl, hd, _⟩ | ⟨pre, Y, hSp, c, hi, hl, hd, _⟩)⟩
    · exact ⟨v, rfl, .inl ⟨xs, X, _, hS, hi, fun k e => .inr e, hl, hd⟩⟩
    · exact ⟨v, rfl, .inr ⟨pre, _, c, hSp, hi, fun k e => .inr e, hl, hd⟩⟩

end Go.Proofs.Ytkfhmfidgdpeiaa

namespace Go.Proofs.Ytkfhmfidgdpeiaa
open Go.RowKit
variable {F : Fence} {n : Nat} {P : Program}

theorem wpIn_rangeX {α : Type} {g : Operand} {ps : Array Tmp} {assign body : Code} {Q : Exit → Act → World → Prop} {a : Act} {w : World}
    (hro : F.round = none) (h1 : 1 ≤ n) {gf : Nat} {lb : Array Value} (hg : a.eval g = .func (.func gf) #[] lb) (hFg : F.fn gf) (eg : ∀ args w, (callFunc gf args).run P w = .ok (.enter gf args) w)
    {encs : α → Array Value} {Good : List α → (Nat → Prop) → α → World → Prop} {S Sp : List α → Prop} {Z0 : Nat → Prop} {w0 : World} (hseq : SeqX F (n - 1) P gf lb encs Good S Sp Z0 w0)
    (hk0 : Kx Z0 w0 w) (hps : ∀ x, (encs x).size = ps.size)
    (X0 : Nat → Prop) (hX0 : ∀ k, X0 k → k < w.heap.size ∧ (Z0 k ∨ w0.heap.size ≤ k))
    (I : List α → (Nat → Prop) → (Nat → Prop) → World → Prop) (Ix : Code → List α → (Nat → Prop) → World → Prop) (hI : ∀ s X, Ab (I s X)) (hIx : ∀ c s, Ab (Ix c s)) (h0 : I [] X0 noBlock w)
    (A : List α → α → Act → (Nat → Prop) → (Nat → Prop) → World → Prop) (hA : ∀ s x a X, Ab (A s x a X))
    (hassign : ∀ (l : Nat) (pre : List α) (x : α) (X Y : Nat → Prop) (W : World) (K : Act → World → Prop), I pre X Y W → Good pre (fun k => X k ∨ Y k) x W → Dj X Y W →
      (∀ a' X' W', A pre x a' X' Y W' → Kx X W W' → (∀ k, X' k → k < W'.heap.size ∧ (X k ∨ W.heap.size ≤ k)) → K a' W') →
      assign.wpIn (F.inRound l) (n - 1 - 1) P (Exit.then K (fun _ _ _ => False)) { tmps := (ps.zip (encs x)).foldl (fun t (p, v) => t.setIfInBounds p v) a.tmps, defers := [] } W)
    (hbody : ∀ (l : Nat) (pre : List α) (x : α) (a' : Act) (X Y : Nat → Prop) (W : World), A pre x a' X Y W → Dj X Y W → Y l → (∃ r, W.heap[l]? = some (.loop r)) →
      body.wpIn (F.inRound l) (n - 1 - 1) P (postX I Ix (pre ++ [x]) X Y W) a' W)
    (hdone : ∀ (D : Nat) (xs : List α) (X Y : Nat → Prop) (W : World), w.heap.size ≤ D → S xs → I xs X Y W → Y D → W.heap[D]? = some (.deferred (some [])) → Q .normal { a with defers := { target := .collected D, args := #[] } :: a.defers } W)
    (hstop : ∀ (D : Nat) (c : Code) (pre : List α) (Y : Nat → Prop) (W : World), w.heap.size ≤ D → Sp pre → Ix c pre Y W → Y D → W.heap[D]? = some (.deferred (some [])) → c.wpIn F n P Q { a with defers := { target := .collected D, args := #[] } :: a.defers } W) :
    (Code.rangeFunc g ps assign body).wpIn F n P Q a w := by
  refine wpIn_rangeFunc ?_
  intro fn hfn
  rw [hro]
  obtain ⟨rec, hrec⟩ : ∃ rec : LoopState → Option Code → Loop, rec = fun st pe => { state := st, pending := pe, fn, tmps := a.tmps, params := ps, assign, body, defers := w.heap.size } := ⟨_, rfl⟩
  obtain ⟨W1, hW1⟩ : ∃ W1, (w.alloc (.deferred (some []))).alloc (.loop (rec .ready none)) = W1 := ⟨_, rfl⟩
  have hs1 : W1.heap.size = w.heap.size + 2 := by rw [← hW1]; simp
  have hL1 : W1.heap[w.heap.size + 1]? = some (.loop (rec .ready none)) := by
    rw [← hW1]; have := World.alloc_heap_new (w.alloc (.deferred (some []))) (.loop (rec .ready none)); rwa [World.size_alloc] at this
  have hK1 : W1.heap[w.heap.size]? = some (.deferred (some [])) := by
    rw [← hW1]; exact (Below.heap_alloc _ _ _ (by simp)).trans (World.alloc_heap_new w _)
  have hk1 : Kx noBlock w W1 := by rw [← hW1]; exact (Kx.al _ _ _).tr (Kx.al _ _ _)
  refine ⟨w.heap.size + 1, [{ target := .collected w.heap.size, args := #[] }], W1, { target := .fn (.func gf) lb, args := #[.func (.yield (w.heap.size + 1)) #[] #[]] }, W1, gf,
    #[.func (.yield (w.heap.size + 1)) #[] #[]] ++ lb, W1, ?_, ?_, ?_, ?_, fun _ => h1, ?_⟩
  · rw [← hW1, hrec]; exact run_enterLoop_outer _ _ _ _ _
  · simp only [resolve, hg]
    simp [go_sem]
  · intro f' hf'; simp [Target.leads] at hf'; subst hf'; exact hFg
  · simp [invoke, go_sem, eg]
  · refine (seqX_core hfn rec w.heap.size (w.heap.size + 1) w.heap.size (.deferred (some [])) (fun k => k = w.heap.size + 1 ∨ k = w.heap.size) (.inl rfl) (fun k e => e) hrec hseq (hk0.th hk1 fun _ e => e.elim) hps (by omega) hL1 hK1
      X0 (fun k e => ⟨by have := (hX0 k e).1; omega, (hX0 k e).2⟩) (fun e => by have := (hX0 _ e).1; omega) (fun e => by have := (hX0 _ e).1; omega) (fun k e => by have := hk0.size; rcases e with e | e <;> omega)
      I Ix hI hIx (hI _ _ _ _ _ _ h0 hk1 fun k e => .inr (by rcases e with e | e <;> omega)) A hA (fun pre x X Y W K => hassign _ pre x X Y W K) (fun pre x a' X Y W => hbody _ pre x a' X Y W)).mono ?_
    rintro e W2 ⟨v, rfl, (⟨xs, X, Y, hS, hi, hy, hl, hk⟩ | ⟨pre, Y, c, hSp, hi, hy, hl, hk⟩)⟩
    · exact ⟨none, _, by have := run_endLoop (P := P) hl (by rw [hrec]; simp); rw [hrec] at this; exact this, hdone _ xs X Y _ (Nat.le_refl _) hS (hI _ _ _ _ _ _ hi (Kx.put (hy _ (.inl rfl)) _) fun k e => .inl e) (hy _ (.inr rfl)) ((World.putObj_heap_other (by omega)).trans hk)⟩
    · exact ⟨some c, _, by have := run_endLoop (P := P) hl (by rw [hrec]; simp); rw [hrec] at this; exact this, hstop _ c pre Y _ (Nat.le_refl _) hSp (hIx _ _ _ _ _ _ hi (Kx.put (hy _ (.inl rfl)) _) fun k e => .inl e) (hy _ (.inr rfl)) ((World.putObj_heap_other (by omega)).trans hk)⟩

/-- Within a round of loop l₀. -/
theorem wpIn_rangeXN {α : Type} {g : Operand} {ps : Array Tmp} {assign body : Code} {Q : Exit → Act → World → Prop} {a : Act} {w : World}
    {l₀ : Nat} {r₀ : Loop} (hro : F.round = some l₀) (hl₀ : w.heap[l₀]? = some (.loop r₀)) (h1 : 1 ≤ n) {gf : Nat} {lb : Array Value} (hg : a.eval g = .func (.func gf) #[] lb) (hFg : F.fn gf) (eg : ∀ args w, (callFunc gf args).run P w = .ok (.enter gf args) w)
    {encs : α → Array Value} {Good : List α → (Nat → Prop) → α → World → Prop} {S Sp : List α → Prop} {Z0 : Nat → Prop} {w0 : World} (hseq : SeqX F (n - 1) P gf lb encs Good S Sp Z0 w0)
    (hk0 : Kx Z0 w0 w) (hps : ∀ x, (encs x).size = ps.size)
    (X0 : Nat → Prop) (hX0 : ∀ k, X0 k → k < w.heap.size ∧ (Z0 k ∨ w0.heap.size ≤ k)) (hX0l : ¬ X0 l₀)
    (I : List α → (Nat → Prop) → (Nat → Prop) → World → Prop) (Ix : Code → List α → (Nat → Prop) → World → Prop) (hI : ∀ s X, Ab (I s X)) (hIx : ∀ c s, Ab (Ix c s)) (h0 : I [] X0 noBlock w)
    (A : List α → α → Act → (Nat → Prop) → (Nat → Prop) → World → Prop) (hA : ∀ s x a X, Ab (A s x a X))
    (hassign : ∀ (l : Nat) (pre : List α) (x : α) (X Y : Nat → Prop) (W : World) (K : Act → World → Prop), I pre X Y W → Good pre (fun k => X k ∨ Y k) x W → Dj X Y W →
      (∀ a' X' W', A pre x a' X' Y W' → Kx X W W' → (∀ k, X' k → k < W'.heap.size ∧ (X k ∨ W.heap.size ≤ k)) → K a' W') →
      assign.wpIn (F.inRound l) (n - 1 - 1) P (Exit.then K (fun _ _ _ => False)) { tmps := (ps.zip (encs x)).foldl (fun t (p, v) => t.setIfInBounds p v) a.tmps, defers := [] } W)
    (hbody : ∀ (l : Nat) (pre : List α) (x : α) (a' : Act) (X Y : Nat → Prop) (W : World), A pre x a' X Y W → Dj X Y W → Y l → (∃ r, W.heap[l]? = some (.loop r)) →
      body.wpIn (F.inRound l) (n - 1 - 1) P (postX I Ix (pre ++ [x]) X Y W) a' W)
    (hdone : ∀ (xs : List α) (X Y : Nat → Prop) (W : World), S xs → I xs X Y W → Q .normal a W)
    (hstop : ∀ (c : Code) (pre : List α) (Y : Nat → Prop) (W : World), Sp pre → Ix c pre Y W → c.wpIn F n P Q a W) :
    (Code.rangeFunc g ps assign body).wpIn F n P Q a w := by
  have hlt₀ : l₀ < w.heap.size := (Array.getElem?_eq_some_iff.1 hl₀).1
  refine wpIn_rangeFunc ?_
  intro fn hfn
  rw [hro]
  obtain ⟨rec, hrec⟩ : ∃ rec : LoopState → Option Code → Loop, rec = fun st pe => { state := st, pending := pe, fn, tmps := a.tmps, params := ps, assign, body, defers := r₀.defers } := ⟨_, rfl⟩
  obtain ⟨W1, hW1⟩ : ∃ W1, w.alloc (.loop (rec .ready none)) = W1 := ⟨_, rfl⟩
  have hs1 : W1.heap.size = w.heap.size + 1 := by rw [← hW1]; simp
  have hL1 : W1.heap[w.heap.size]? = some (.loop (rec .ready none)) := by rw [← hW1]; exact World.alloc_heap_new w _
  have hk1 : Kx noBlock w W1 := by rw [← hW1]; exact Kx.al _ _ _
  have hK1 : W1.heap[l₀]? = some (.loop r₀) := hk1.keepO hl₀ (fun e => e)
  refine ⟨w.heap.size, [], W1, { target := .fn (.func gf) lb, args := #[.func (.yield w.heap.size) #[] #[]] }, W1, gf,
    #[.func (.yield w.heap.size) #[] #[]] ++ lb, W1, ?_, ?_, ?_, ?_, fun _ => h1, ?_⟩
  · rw [← hW1, hrec]; exact run_enterLoop_inner hl₀ _ _ _ _ _
  · simp only [resolve, hg]
    simp [go_sem]
  · intro f' hf'; simp [Target.leads] at hf'; subst hf'; exact hFg
  · simp [invoke, go_sem, eg]
  · refine (seqX_core hfn rec r₀.defers w.heap.size l₀ (.loop r₀) (fun k => k = w.heap.size) rfl (fun k e => .inl e) hrec hseq (hk0.th hk1 fun _ e => e.elim) hps (by omega) hL1 hK1
      X0 (fun k e => ⟨by have := (hX0 k e).1; omega, (hX0 k e).2⟩) (fun e => by have := (hX0 _ e).1; omega) hX0l (fun k e => by have := hk0.size; omega)
      I Ix hI hIx (hI _ _ _ _ _ _ h0 hk1 fun k e => .inr (by omega)) A hA (fun pre x X Y W K => hassign _ pre x X Y W K) (fun pre x a' X Y W => hbody _ pre x a' X Y W)).mono ?_
    rintro e W2 ⟨v, rfl, (⟨xs, X, Y, hS, hi, hy, hl, hk⟩ | ⟨pre, Y, c, hSp, hi, hy, hl, hk⟩)⟩
    · exact ⟨none, _, by have := run_endLoop (P := P) hl (by rw [hrec]; simp); rw [hrec] at this; exact this, hdone xs X Y _ hS (hI _ _ _ _ _ _ hi (Kx.put (hy _ rfl) _) fun k e => .inl e)⟩
    · exact ⟨some c, _, by have := run_endLoop (P := P) hl (by rw [hrec]; simp); rw [hrec] at this; exact this, hstop c pre Y _ hSp (hIx _ _ _ _ _ _ hi (Kx.put (hy _ rfl) _) fun k e => .inl e)⟩

theorem SeqX.inRound {α : Type} {g : Nat} {lb : Array Value} {encs : α → Array Value} {Good : List α → (Nat → Prop) → α → World → Prop} {S Sp : List α → Prop} {Z0 : Nat → Prop} {w0 : World} (l : Nat)
    (h : SeqX F n P g lb encs Good S Sp Z0 w0) : SeqX (F.inRound l) n P g lb encs Good S Sp Z0 w0 := h

/-- Said of every world that Z's holders may make of W. -/
def St (Z : Nat → Prop) (p : World → Prop) (W : World) : Prop := ∀ B, Kx Z W B → p B

theorem St.here {Z : Nat → Prop} {p : World → Prop} {W : World} (h : St Z p W) : p W := h W (Kx.refl _ _)

theorem St.keep {Z Z' : Nat → Prop} {p : World → Prop} {W W' : World} (h : St Z p W) (k : Kx Z W W') (hz : ∀ i, Z' i → Z i ∨ W.heap.size ≤ i) : St Z' p W' := fun B kb => h B (k.th kb hz)

theorem St.ab (p : World → Prop) : Ab (fun Y => St Y p) := fun _ _ _ _ h k hy => h.keep k hy

theorem St.imp {Z : Nat → Prop} {p q : World → Prop} {W : World} (h : St Z p W) (k : ∀ B, p B → q B) : St Z q W := fun B kb => k B (h B kb)

theorem St.and {Z : Nat → Prop} {p q : World → Prop} {W : World} (h : St Z p W) (k : St Z q W) : St Z (fun B => p B ∧ q B) W := fun B kb => ⟨h B kb, k B kb⟩

theorem Own.kx {Z : Nat → Prop} {w w' : World} {b : Nat} {vs : List Value} (h : Own w b vs) (k : Kx Z w w') (hz : ¬ Z b) : Own w' b vs := by
  have hb := k.block b h.1.1 hz
  exact ⟨⟨Nat.lt_of_lt_of_le h.1.1 k.size, fun i v hv => (World.cell?_of_block (w := w) (a := ⟨b, i, none⟩) hb).trans (h.1.2 i v hv)⟩,
    fun i => (World.frozen?_of_block (w := w) (a := ⟨b, i, none⟩) hb).trans (h.2 i)⟩

theorem RowOf.kx {α : Type} {sz : Nat} {enc : α → List Value} {w w' : World} {a : Option Addr} {l : List α} {Z : Nat → Prop} (h : RowOf sz enc w a l) (k : Kx Z w w') (hz : ∀ b off, a = some ⟨b, off, none⟩ → ¬ Z b) : RowOf sz enc w' a l := by
  refine ⟨h.1, fun j x hx => ?_⟩
  obtain ⟨b, off, ha, hb, hc⟩ := h.2 j x hx
  have hbk := k.block b hb (hz b off ha)
  exact ⟨b, off, ha, Nat.lt_of_lt_of_le hb k.size, fun i v hv => (World.cell?_of_block (w := w) (a := ⟨b, off + j * sz + i, none⟩) hbk).trans (hc i v hv)⟩

theorem Own.st {Z : Nat → Prop} {w : World} {b : Nat} {vs : List Value} (h : Own w b vs) (hz : ¬ Z b) : St Z (fun B => Own B b vs) w := fun _ k => h.kx k hz

theorem RowOf.st {α : Type} {sz : Nat} {enc : α → List Value} {w : World} {a : Option Addr} {l : List α} {Z : Nat → Prop} (h : RowOf sz enc w a l) (hz : ∀ b off, a = some ⟨b, off, none⟩ → ¬ Z b) : St Z (fun B => RowOf sz enc B a l) w := fun _ k => h.kx k hz

end Go.Proofs.Ytkfhmfidgdpeiaa

namespace Go.Proofs.Ytkfhmfidgdpeiaa
open Go.RowKit

theorem run_append_new {P : Program} (w : World) (t ty e : TypeId) (i : TypeInfo) (z : Value) (size bytes : Nat) (ht : P.underlying t = some (.slice e)) (hi : P.info? e = some i) (hz : i.zero = some z)
    (hsize : i.size = size) (hby : i.bytes = bytes) (hzs : z.cells.size = size) (hsz : 0 < size)
    (v : Value) (n : Nat) (xs : List Value) (hown : w.ownsRow 0 e size v n xs)
    (a : Addr) (m c : Nat) (news : List Value) (hl : news.length = m * size) (hnews : ∀ j u, news[j]? = some u → w.cell? (a.add j) = some u) (h1 : ∀ u ∈ news, u.oneCell' = true)
    (h63 : n + m ≤ maxLen) (hbytes : (n + m) * bytes ≤ 140737488355328) :
    ∃ v' w', (Builtin.append_ #[t, t] ty #[v, .slice (some a) m c]).run P w = .ok v' w' ∧ w'.ownsRow 0 e size v' (n + m) (xs ++ news) ∧ w.grownBy w' v.ownBlock ∧
      (∀ b, v'.ownBlock = some b → b < w'.heap.size ∧ (v.ownBlock = some b ∨ w.heap.size ≤ b)) := by
  obtain ⟨v', w', hr, h2, h3, h4⟩ := run_append_own (P := P) w 0 t ty e i z size bytes ht hi hz hsize hby hzs hsz v n xs hown a m c news hl hnews h1 h63 hbytes (Nat.zero_le _)
  refine ⟨v', w', hr, h2, h3, fun b hb => ⟨?_, ?_⟩⟩
  · obtain ⟨_, h⟩ := h2
    rcases h with ⟨hv, _⟩ | ⟨g, cap, cur, hv, _, hh, _⟩
    · subst hv; simp [Value.ownBlock] at hb
    · subst hv
      simp only [Value.ownBlock, Option.some.injEq] at hb
      subst hb
      exact (Array.getElem?_eq_some_iff.1 hh).1
  have hsmall : n + m ≤ 9223372036854775807 := by simp only [maxLen] at h63; omega
  subst hsize
  subst hby
  rcases hown.2 with ⟨rfl, rfl⟩ | ⟨g, cap, cur, rfl, hbg, hg, hnc, hcm, hcs, htake⟩
  · by_cases hm : m = 0
    · have := h4.2 ⟨rfl, hm⟩
      subst this
      simp [Value.ownBlock] at hb
    · have hr2 := run_append_nil (P := P) w t ty e i z ht hi hz a m c news hl hnews (by omega) (by omega) (by have hb := hbytes; simp only [Nat.zero_add] at hb; omega)
      rw [hr2] at hr
      injection hr with e1 e2
      subst e1
      simp only [Value.ownBlock, Option.some.injEq] at hb
      exact .inr (by omega)
  · by_cases hroom : n + m ≤ cap
    · have hfit : n * i.size + news.length ≤ cur.size := by rw [hl, hcs, ← Nat.add_mul]; exact Nat.mul_le_mul_right _ hroom
      have hr2 := run_append_room (P := P) w t ty e i ht hi g n cap cur hg a m c news hl hnews h1 hroom hfit
      rw [hr2] at hr
      injection hr with e1 e2
      subst e1
      exact .inl hb
    · have holds : ∀ j u, xs[j]? = some u → w.cell? ((⟨g, 0, none⟩ : Addr).add j) = some u := hown.cells (g := g) rfl
      have hr2 := run_append_grow (P := P) w t ty e i z ht hi hz ⟨g, 0, none⟩ n cap xs hown.1 holds a m c news hl hnews (by omega) (by omega) (growslice_fits (by omega) hbytes)
      rw [hr2] at hr
      injection hr with e1 e2
      subst e1
      simp only [Value.ownBlock, Option.some.injEq] at hb
      exact .inr (by omega)

theorem wpListIn_append_new {F : Fence} {n : Nat} {P : Program} (w : World) {ops : Array Oper} {rest : List Oper} {o : Oper} {a : Act} {Q : Exit → Act → World → Prop}
    (hg : o.guard = none) (s x : Operand) (t : TypeId) (hop : o.op = Op.call { callee := Callee.builtin Builtin.append, args := #[s, x], argTypes := #[t, t] })
    (e : TypeId) (i : TypeInfo) (z : Value) (size bytes : Nat) (h1 : P.underlying t = some (.slice e)) (h2 : P.info? e = some i) (h3 : i.zero = some z) (h4 : i.size = size) (h5 : i.bytes = bytes) (h6 : z.cells.size = size) (h7 : 0 < size)
    (v : Value) (k : Nat) (xs : List Value) (hs : a.eval s = v) (hown : w.ownsRow 0 e size v k xs) (ad : Addr) (m c : Nat) (news : List Value) (hx : a.eval x = .slice (some ad) m c) (hn : news.length = m * size)
    (hc : ∀ j u, news[j]? = some u → w.cell? (ad.add j) = some u) (h1c : ∀ u ∈ news, u.oneCell' = true) (b1 : k + m ≤ maxLen) (b2 : (k + m) * bytes ≤ 140737488355328)
    (hK : ∀ v' w', w'.ownsRow 0 e size v' (k + m) (xs ++ news) → w.grownBy w' v.ownBlock → (∀ b, v'.ownBlock = some b → b < w'.heap.size ∧ (v.ownBlock = some b ∨ w.heap.size ≤ b)) → wpListIn F n P ops Q rest (a.put o.dst v') w') :
    wpListIn F n P ops Q (o :: rest) a w := by
  refine wpListIn_plain hg fun K hK' => ?_
  obtain ⟨v', w', hrun, r1, r2, r3⟩ := run_append_new (P := P) w t o.type e i z size bytes h1 h2 h3 h4 h5 h6 h7 v k xs hown ad m c news hn hc h1c b1 b2
  unfold Oper.wpIn
  refine ⟨?_, ?_⟩
  · simp [Oper.about, hop, resolve, Target.leads, Sem.run_pure]
  · rw [Oper.semAt_plain F _ _ (by rw [hop]; intro c hc'; cases hc')]
    simp [execOp, hop, resolve, invoke, builtin, hs, hx, hrun, Result.andThen]
    exact hK' _ _ (hK v' w' r1 r2 r3)

end Go.Proofs.Ytkfhmfidgdpeiaa

namespace Go.Proofs.Ytkfhmfidgdpeiaa
set_option linter.unusedVariables false
set_option linter.unusedSimpArgs false
open Go.RowKit Go.Shelf
attribute [local go_sem] Oper.semAt_some

def sumLo : List Ld → Int
  | [] => 0
  | x :: l => x.wl + sumLo l

def sumHi : List Ld → Int
  | [] => 0
  | x :: l => x.wh + sumHi l

/-- What lies on each box: its place, and the least and the greatest load. -/
def loadsL (l : List Ld) : List (Nat × Int × Int) := (List.range l.length).map fun k => (k, sumLo (l.drop (k + 1)), sumHi (l.drop (k + 1)))

def LdB (x : Ld) : Prop := 0 ≤ x.wl ∧ x.wl ≤ 1000000000 ∧ 0 ≤ x.wh ∧ x.wh ≤ 1000000000

theorem sum_app (x : Ld) : ∀ l : List Ld, sumLo (l ++ [x]) = sumLo l + x.wl ∧ sumHi (l ++ [x]) = sumHi l + x.wh
  | [] => by simp [sumLo, sumHi]
  | y :: l => by
    have := sum_app x l
    simp only [List.cons_append, sumLo, sumHi]
    omega

theorem sum_take {l : List Ld} {k : Nat} {x : Ld} (h : l[k]? = some x) : sumLo (l.take (k + 1)) = sumLo (l.take k) + x.wl ∧ sumHi (l.take (k + 1)) = sumHi (l.take k) + x.wh := by
  have e : l.take (k + 1) = l.take k ++ [x] := by rw [List.take_add_one, h]; rfl
  rw [e]
  exact sum_app x _

theorem sum_drop {l : List Ld} {k : Nat} {x : Ld} (h : l[k]? = some x) : sumLo (l.drop k) = x.wl + sumLo (l.drop (k + 1)) ∧ sumHi (l.drop k) = x.wh + sumHi (l.drop (k + 1)) := by
  have hk := (List.getElem?_eq_some_iff.1 h).1
  have e : l.drop k = x :: l.drop (k + 1) := by rw [List.drop_eq_getElem_cons hk, (List.getElem?_eq_some_iff.1 h).2]
  rw [e]
  exact ⟨rfl, rfl⟩

theorem sum_bd : ∀ {l : List Ld}, (∀ x ∈ l, LdB x) → 0 ≤ sumLo l ∧ sumLo l ≤ 1000000000 * (l.length : Int) ∧ 0 ≤ sumHi l ∧ sumHi l ≤ 1000000000 * (l.length : Int)
  | [], _ => by simp [sumLo, sumHi]
  | y :: l, h => by
    obtain ⟨a, b, c, d⟩ := sum_bd (fun x hx => h x (List.mem_cons_of_mem _ hx))
    obtain ⟨p, q, r, s⟩ := h y List.mem_cons_self
    simp only [sumLo, sumHi, List.length_cons]
    omega

theorem loadsL_take {l : List Ld} {k : Nat} (hk : k < l.length) : (loadsL l).take (k + 1) = (loadsL l).take k ++ [(k, sumLo (l.drop (k + 1)), sumHi (l.drop (k + 1)))] := by
  rw [List.take_add_one]
  congr 1
  simp [loadsL, hk]

def encO (x : Nat × Int × Int) : Array Value := #[.int .i64 (x.1 : Int), .agg #[.int .i64 x.2.1, .int .i64 x.2.2]]

set_option maxRecDepth 100000 in
set_option maxHeartbeats 2000000 in
theorem loads_seq (F : Fence) (n : Nat) (hF : F.fn 100) (hro : F.round = none) (hn : 1 ≤ n) (b : Nat) (a : Option Addr) (cap : Nat) (l : List Ld) (hl : l.length ≤ 1000) (hB : ∀ x ∈ l, LdB x)
    (Z0 : Nat → Prop) (w0 : World) (hst : St Z0 (fun V => Own V b [.slice a l.length cap] ∧ LRow V a l) w0) :
    SeqX F n Try.prog 100 #[.pointer (some ⟨b, 0, none⟩)] encO (fun pre _ x _ => x ∈ loadsL l ∧ pre.length < l.length) (fun xs => xs = loadsL l) (fun pre => ∃ k, k ≤ l.length ∧ pre = (loadsL l).take k) Z0 w0 := by
  intro i0 J Jx X0 W hk0 hX0 hJ hJx hY h0
  refine callsIn_of_wp Try.func100 rfl hF ?_ hro
  simp only [Try.ntmps100, List.size_toArray, List.length_cons, List.length_nil, Nat.reduceAdd, Nat.reduceSub, Array.replicate_succ, Array.replicate_zero, List.push_toArray, List.append_toArray, List.nil_append, List.cons_append]
  have HY := Lib.hid hY
  have HJ := Lib.hid hJ
  have HX0 := Lib.hid hX0
  have HS := Lib.hid hst
  have HB := Lib.hid hB
  obtain ⟨hb, hrow⟩ := hst W hk0
  have gA := Gr.al W (.cells #[.int .i64 0, .int .i64 0] 45)
  have oL := Own.new W [.int .i64 0, .int .i64 0] 45 W.heap.size rfl
  have q0 := (hb.keep gA).1.c1
  have H0 := Lib.hid h0
  have HK := Lib.hid hk0
  clear hY hJ hX0 hst hB hJx h0
  gi_wp2
  clear q0
  gi_loopw [11] (fun i wr => ∃ k : Nat, k ≤ l.length ∧ i = .int .i64 k ∧ Gr W wr ∧ Own wr W.heap.size [.int .i64 (sumLo (l.take k)), .int .i64 (sumHi (l.take k))]) (fun i _ => l.length - (intOf i).toNat)
  case atStart => exact ⟨0, Nat.zero_le _, rfl, gA, oL⟩
  case round =>
    obtain ⟨k, hk, rfl, gw, ow⟩ := hrel
    by_cases hlt : k < l.length
    · obtain ⟨x, hx⟩ : ∃ x, l[k]? = some x := ⟨l[k], by simp [hlt]⟩
      obtain ⟨c, off, rfl, hc, r0, r1, r2, r3⟩ := LRow.get (hrow.grow gw) hx
      obtain ⟨e1, e2⟩ := sum_take hx
      obtain ⟨t1, t2, t3, t4⟩ := sum_bd (l := l.take k) (fun y hy => HB.out y (List.mem_of_mem_take hy))
      have t5 : (l.take k).length ≤ 1000 := by simp; omega
      obtain ⟨b1, b2, b3, b4⟩ := HB.out x (List.mem_of_getElem? hx)
      have v0 : IntKind.i64.wrap (sumLo (l.take k) + x.wl) = sumLo (l.take k) + x.wl := IntWalk.i64_in _ (by omega)
      have v1 : IntKind.i64.wrap (sumHi (l.take k) + x.wh) = sumHi (l.take k) + x.wh := IntWalk.i64_in _ (by omega)
      have gU := Gr.al wr (.cells #[.int .i64 x.sl, .int .i64 x.sh, .int .i64 x.wl, .int .i64 x.wh] 70)
      have oU := ow.keep gU
      obtain ⟨p0, p1⟩ := oU.1.c2
      have z0 := oU.2 0
      have z1 := oU.2 1
      obtain ⟨s0, s1, s2, s3⟩ := (Box.new wr [.int .i64 x.sl, .int .i64 x.sh, .int .i64 x.wl, .int .i64 x.wh] 70 wr.heap.size rfl).c4'
      have n1 : ¬ wr.heap.size = W.heap.size := by have := ow.1.1; omega
      have n2 : ¬ W.heap.size = wr.heap.size := by omega
      have HE1 := Lib.hid e1
      have HE2 := Lib.hid e2
      have HO := Lib.hid oU
      have HG := Lib.hid (gw.tr gU)
      clear e1 e2 oU t1 t2 t3 t4 t5 b1 b2 b3 b4 hrow hb hx ow gw gU
      gi_wp2
      go_roundw
      case rel =>
        refine ⟨k + 1, by omega, by go_num, ?_, ?_⟩
        · exact (HG.out.setCell (p := ⟨W.heap.size, 0, none⟩) (Nat.le_refl _) _).setCell (p := ⟨W.heap.size, 1, none⟩) (Nat.le_refl _) _
        · rw [HE1.out, HE2.out]
          exact (HO.out.set (i := 0) (v := .int .i64 (sumLo (l.take k) + x.wl)) (by simp)).set (i := 1) (v := .int .i64 (sumHi (l.take k) + x.wh)) (by simp)
      case measure => simp [intOf]; omega
    · obtain rfl : k = l.length := by omega
      rw [List.take_length] at ow
      have q0 := (hb.keep gw).1.c1
      have hd0 : l.drop 0 = l := rfl
      clear hlt hk
      have HQ := Lib.hid hb
      have HR := Lib.hid hrow
      have hL0 : W.heap.size < wr.heap.size := ow.1.1
      have kW : Kx Z0 w0 wr := hk0.th (Kx.gr (Z := noBlock) gw) (fun _ e => e.elim)
      have hw0 : w0.heap.size ≤ W.heap.size := hk0.size
      have jW : J [] X0 (fun i => i = W.heap.size) wr := HJ.out [] X0 _ _ _ _ H0.out (Kx.gr gw) (fun i e => .inr (by omega))
      have xW : ∀ i, X0 i → i < wr.heap.size ∧ (Z0 i ∨ w0.heap.size ≤ i) := fun i e => ⟨by have := (HX0.out i e).1; omega, (HX0.out i e).2⟩
      have nW : ¬ X0 W.heap.size := fun e => by have := (HX0.out _ e).1; omega
      have HKW := Lib.hid kW
      have HJW := Lib.hid jW
      have HXW := Lib.hid xW
      clear hb hrow gw kW jW xW gA oL hk0
      gi_wp2
      clear q0
      gi_loopw [32] (fun i wr' => ∃ k : Nat, k ≤ l.length ∧ i = .int .i64 k ∧ ∃ pre X, pre = (loadsL l).take k ∧ J pre X (fun i => i = W.heap.size) wr' ∧ (∀ i, X i → i < wr'.heap.size ∧ (Z0 i ∨ w0.heap.size ≤ i)) ∧ ¬ X W.heap.size ∧ Kx Z0 w0 wr' ∧ Own wr' W.heap.size [.int .i64 (sumLo (l.drop k)), .int .i64 (sumHi (l.drop k))]) (fun i _ => l.length - (intOf i).toNat)
      case atStart => exact ⟨0, Nat.zero_le _, rfl, [], X0, rfl, HJW.out, HXW.out, nW, HKW.out, by rw [hd0]; exact ow⟩
      case round =>
        rename World => V
        obtain ⟨k, hk, rfl, pre, X, hpre, hj, hX, hXn, hkV, oV⟩ := hrel
        by_cases hlt : k < l.length
        · obtain ⟨x, hx⟩ : ∃ x, l[k]? = some x := ⟨l[k], by simp [hlt]⟩
          obtain ⟨_, hrV⟩ := HS.out V hkV
          obtain ⟨c, off, rfl, hc, r0, r1, r2, r3⟩ := LRow.get hrV hx
          obtain ⟨e1, e2⟩ := sum_drop hx
          obtain ⟨t1, t2, t3, t4⟩ := sum_bd (l := l.drop (k + 1)) (fun y hy => HB.out y (List.mem_of_mem_drop hy))
          have t5 : (l.drop (k + 1)).length ≤ 1000 := by simp; omega
          obtain ⟨b1, b2, b3, b4⟩ := HB.out x (List.mem_of_getElem? hx)
          obtain ⟨A, hA⟩ : ∃ A, sumLo (l.drop (k + 1)) = A := ⟨_, rfl⟩
          obtain ⟨B, hBB⟩ : ∃ B, sumHi (l.drop (k + 1)) = B := ⟨_, rfl⟩
          rw [hA] at e1 t1 t2
          rw [hBB] at e2 t3 t4
          rw [e1, e2] at oV
          have v0 : IntKind.i64.wrap (x.wl + A - x.wl) = A := by rw [show x.wl + A - x.wl = A by omega]; exact IntWalk.i64_in _ (by omega)
          have v1 : IntKind.i64.wrap (x.wh + B - x.wh) = B := by rw [show x.wh + B - x.wh = B by omega]; exact IntWalk.i64_in _ (by omega)
          have gU := Gr.al V (.cells #[.int .i64 x.sl, .int .i64 x.sh, .int .i64 x.wl, .int .i64 x.wh] 70)
          have oU := oV.keep gU
          obtain ⟨p0, p1⟩ := oU.1.c2
          have z0 := oU.2 0
          have z1 := oU.2 1
          obtain ⟨s0, s1, s2, s3⟩ := (Box.new V [.int .i64 x.sl, .int .i64 x.sh, .int .i64 x.wl, .int .i64 x.wh] 70 V.heap.size rfl).c4'
          have n1 : ¬ V.heap.size = W.heap.size := by have := oV.1.1; omega
          have n2 : ¬ W.heap.size = V.heap.size := by omega
          have oE : Own (((V.alloc (.cells #[.int .i64 x.sl, .int .i64 x.sh, .int .i64 x.wl, .int .i64 x.wh] 70)).setCell ⟨W.heap.size, 0, none⟩ (.int .i64 A)).setCell ⟨W.heap.size, 1, none⟩ (.int .i64 B)) W.heap.size [.int .i64 A, .int .i64 B] :=
            (oU.set (i := 0) (v := .int .i64 A) (by simp)).set (i := 1) (v := .int .i64 B) (by simp)
          have kE : Kx (fun i => i = W.heap.size) V (((V.alloc (.cells #[.int .i64 x.sl, .int .i64 x.sh, .int .i64 x.wl, .int .i64 x.wh] 70)).setCell ⟨W.heap.size, 0, none⟩ (.int .i64 A)).setCell ⟨W.heap.size, 1, none⟩ (.int .i64 B)) :=
            (Kx.al (fun i => i = W.heap.size) V _).tr ((Kx.set (Z := fun i => i = W.heap.size) (p := ⟨W.heap.size, 0, none⟩) rfl _).tr (Kx.set (Z := fun i => i = W.heap.size) (p := ⟨W.heap.size, 1, none⟩) rfl _))
          obtain ⟨E, hE⟩ : ∃ E, (((V.alloc (.cells #[.int .i64 x.sl, .int .i64 x.sh, .int .i64 x.wl, .int .i64 x.wh] 70)).setCell ⟨W.heap.size, 0, none⟩ (.int .i64 A)).setCell ⟨W.heap.size, 1, none⟩ (.int .i64 B)) = E := ⟨_, rfl⟩
          rw [hE] at oE kE
          have jE : J pre X (fun i => i = W.heap.size) E := HJ.out pre X _ _ _ _ hj kE (fun i e => .inl e)
          obtain ⟨fn, tmps, assign, body, hy, hRR⟩ := HY.out pre (k, A, B) X _ E jE (by rw [← hA, ← hBB]; exact ⟨List.mem_map.2 ⟨k, List.mem_range.2 hlt, rfl⟩, by rw [hpre]; simp [loadsL]; omega⟩) ⟨fun i e => by have := (hX i e).1; have := kE.size; omega, fun i e => by have := oE.1.1; omega, fun i e e' => hXn (e' ▸ e)⟩
          dsimp only [encO] at hy
          obtain ⟨p2, p3⟩ := oE.1.c2
          have sE := kE.size
          have lV := Lib.hid oV.1.1
          have HOE := Lib.hid oE
          have HKE := Lib.hid kE
          have HX := Lib.hid hX
          have HKV := Lib.hid hkV
          have HA := Lib.hid hA
          have HBB := Lib.hid hBB
          have HP := Lib.hid hpre
          clear e1 e2 oU oV t1 t2 t3 t4 t5 b1 b2 b3 b4 hx hj hX hkV oE kE jE hA hBB hpre hrV
          subst hE
          gi_wp2
          refine hRR.mono ?_
          clear hRR hy p0 p1 p2 p3 z0 z1 s0 s1 s2 s3 r0 r1 r2 r3
          rintro e W3 ⟨hk3, (⟨rfl, X', hJ3, hX3⟩ | ⟨rfl, hJx3⟩)⟩
          · have oW3 := HOE.out.kx hk3 hXn
            have HJ3 := Lib.hid hJ3
            have HX3 := Lib.hid hX3
            have Hk3 := Lib.hid hk3
            have HO3 := Lib.hid oW3
            clear hJ3 hX3 hk3 oW3
            gi_wp2
            go_roundw
            case rel =>
              have hw := HKV.out.size
              refine ⟨k + 1, by omega, by go_num, _, X', ?_, HJ3.out, fun i e => ⟨(HX3.out i e).1, ?_⟩, fun e => ?_, (HKV.out.th HKE.out fun i e => .inr (by omega)).th Hk3.out fun i e => (HX.out i e).2, ?_⟩
              · rw [loadsL_take hlt, HA.out, HBB.out, HP.out]
              · rcases (HX3.out i e).2 with h | h
                · exact (HX.out i h).2
                · exact .inr (by omega)
              · rcases (HX3.out _ e).2 with h | h
                · exact hXn h
                · have := lV.out
                  omega
              · rw [HA.out, HBB.out]
                exact HO3.out
            case measure => simp [intOf]; omega
          · gi_wp2
            refine bodyPost_ret (results_none rfl _ _ _) rfl ?_
            refine ⟨⟨_, rfl⟩, .inr ⟨_, _, ⟨k + 1, by omega, ?_⟩, hJx3⟩⟩
            rw [loadsL_take hlt, HA.out, HBB.out, HP.out]
        · obtain rfl : k = l.length := by omega
          gi_wp2
          go_end0
          refine ⟨⟨_, rfl⟩, .inl ⟨pre, X, _, ?_, hj⟩⟩
          rw [hpre, show l.length = (loadsL l).length by simp [loadsL], List.take_length]

end Go.Proofs.Ytkfhmfidgdpeiaa
