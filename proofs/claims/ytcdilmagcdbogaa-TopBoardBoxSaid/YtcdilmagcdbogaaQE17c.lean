/- A region that draws its order, in which two variables are made and written once each, among calls that make rows: what is said of a value holds whatever the variables hold. crush's truths: the iterator's contract. (Made by gen_i8.py.) slices.Grow of nil, slices.Concat of two rows of ints. crush: what a lot's truths are made of. crush: whether a lot passes at an end of its truths. (Made by gen_i11.py.) crush: what is known of a lot (state), Decide. slices.Repeat of one integer. slices.Repeat of an integer, however often. crush: how many tests more a lot needs. (Made by gen_i15.py.) crush.Need of what is valid. TopTestedBoard's numbers: lots that surely pass, surely fail. crush: what is known of a lot, as more is read of it. Append onto one of two rows: the rows stay apart. Contracts of the law's ints and passes. The law's lot: a rule, an off, truths and readings. -/
import Derived.Test.YtcdilmagcdbogaaQE17b
import Derived.Test.YtcdilmagcdbogaaQE10a
import Derived.Deep.MidRow
import Derived.Lib.AppendZerosOnto
import Derived.Lib.SliceRun
import Derived.Laws.Append
import Derived.Deep.OwnRows
import Derived.Laws.AppendOwnNone
import Derived.Laws.AppendOwn
import Derived.OwnWalk
import Derived.Test.YtcdilmagcdbogaaQE10b
import Derived.BigQuiet
import Derived.Test.YtcdilmagcdbogaaQE17a
import Derived.Lib.MinMax
import Derived.Deep.CutRange
import Derived.Deep.AppendLies
namespace Go.Proofs.Ytcdilmagcdbogaa
set_option linter.unusedVariables false
set_option linter.unusedSimpArgs false
open Go.RowKit

/-- What is said of a value, whatever the variables hold. -/
theorem at_of_var {Fs : List (World → Value → Prop)} {i : Nat} {G : World → Value → Prop} {V : Nat → Prop} {v : World} {u : Value} (h : Fs[i]? = some G) (hG : ∀ v', Kx V v v' → G v' u) : ∀ F : World → Value → Prop, Fs[i]? = some F → ∀ v', Kx V v v' → F v' u := by
  intro F e
  rw [h] at e
  cases e
  exact hG

theorem new_out {V : Nat → Prop} {m n : Nat} {a : Option Addr} (h : NewAt m a) (hV : ∀ b, V b → n ≤ b ∧ b < m) : ∀ b off, a = some ⟨b, off, none⟩ → ¬ V b := fun b off e hv => by
  have := hV b hv
  have := h b off none e
  omega

/-- The variables that were made so far. -/
def VarSet (x : Nat → Value) (l : Array Bool) (p1 p2 : Nat) (b : Nat) : Prop :=
  (l.getD p1 false = true ∧ x p1 = .pointer (some ⟨b, 0, none⟩)) ∨ (l.getD p2 false = true ∧ x p2 = .pointer (some ⟨b, 0, none⟩))

theorem row_kz {α : Type} {sz : Nat} {enc : α → List Value} {w w' : World} {a : Option Addr} {l : List α} {Z : Nat → Prop} (h : RowOf sz enc w a l) (k : Kx Z w w') (hne : ∀ b off, a = some ⟨b, off, none⟩ → ¬ Z b) : RowOf sz enc w' a l := by
  refine ⟨h.1, fun j x hx => ?_⟩
  obtain ⟨b, off, ha, hb, hc⟩ := h.2 j x hx
  have hbk := k.block b hb (hne _ _ ha)
  exact ⟨b, off, ha, Nat.lt_of_lt_of_le hb k.size, fun i v hv => (World.cell?_of_block (w := w) (a := ⟨b, off + j * sz + i, none⟩) hbk).trans (hc i v hv)⟩

theorem wp_region_vars {P : Program} {Q : Exit → Act → World → Prop} {id : Nat} {W : World} {l : List Oper} (n p1 q1 r1 p2 q2 r2 : Nat) (c1 c2 : List Value) (d1 d2 : Value → List Value) (t1 t2 : TypeId) (ds : List (Nat × Nat)) (fr : (Nat → Value) → Act) (x0 : Nat → Value) (Fs : List (World → Value → Prop)) {a : Act} (ha : a = fr x0) (hm : P.follows .mixedOrders = true)
    (hB : (decide (n < l.toArray.size) && Region.sinkB .any l.toArray n && Region.chainB .any l.toArray n && minB .any l.toArray n && Region.seqB .any l.toArray (l.toArray.size - n) n (Array.replicate n true ++ Array.replicate (l.toArray.size - n) false)) = true)
    (hD : depB .any l.toArray ds = true) (hd1 : (q1, p1) ∈ ds) (hd2 : q2 < n → (q2, p2) ∈ ds) (hr1 : (q1, r1) ∈ ds) (hr2 : q2 < n → (q2, r2) ∈ ds) (hne : [p1, q1, p2, q2].Nodup) (hnr : ¬ r1 ∈ [p1, q1, p2, q2] ∧ ¬ r2 ∈ [p1, q1, p2, q2]) (hn : p1 < n ∧ q1 < n ∧ p2 < n)
    (hstep : ∀ i, i < n → i ≠ p1 → i ≠ q1 → i ≠ p2 → i ≠ q2 → ∀ x v (V : Nat → Prop), Gr W v → (∀ b, V b → W.heap.size ≤ b ∧ b < v.heap.size) → (∀ (j : Nat) (F : World → Value → Prop), (i, j) ∈ ds → ¬ j ∈ [p1, q1, p2, q2] → Fs[j]? = some F → ∀ v', Kx V v v' → F v' (x j)) → ∀ K : Act → World → Prop, (∀ u v', Gr v v' → (∀ F : World → Value → Prop, Fs[i]? = some F → ∀ v'', Kx V v' v'' → F v'' u) → K (fr (upd x i u)) v') → wpOp P l.toArray Q i K (fr x) v)
    (hp1 : ∀ x v, Gr W v → ∀ K : Act → World → Prop, K (fr (upd x p1 (.pointer (some ⟨v.heap.size, 0, none⟩)))) (v.alloc (.cells c1.toArray t1)) → wpOp P l.toArray Q p1 K (fr x) v)
    (hp2 : ∀ x v, Gr W v → ∀ K : Act → World → Prop, K (fr (upd x p2 (.pointer (some ⟨v.heap.size, 0, none⟩)))) (v.alloc (.cells c2.toArray t2)) → wpOp P l.toArray Q p2 K (fr x) v)
    (hq1 : ∀ x v b, Gr W v → W.heap.size ≤ b → x p1 = .pointer (some ⟨b, 0, none⟩) → Own v b c1 → (∀ (j : Nat) (F : World → Value → Prop), (q1, j) ∈ ds → ¬ j ∈ [p1, q1, p2, q2] → Fs[j]? = some F → F v (x j)) → ∀ K : Act → World → Prop, (∀ v', Kx (fun k => k = b) v v' → Own v' b (d1 (x r1)) → K (fr x) v') → wpOp P l.toArray Q q1 K (fr x) v)
    (hq2 : q2 < n → ∀ x v b, Gr W v → W.heap.size ≤ b → x p2 = .pointer (some ⟨b, 0, none⟩) → Own v b c2 → (∀ (j : Nat) (F : World → Value → Prop), (q2, j) ∈ ds → ¬ j ∈ [p1, q1, p2, q2] → Fs[j]? = some F → F v (x j)) → ∀ K : Act → World → Prop, (∀ v', Kx (fun k => k = b) v v' → Own v' b (d2 (x r2)) → K (fr x) v') → wpOp P l.toArray Q q2 K (fr x) v)
    (hend : ∀ x v b1 b2, Gr W v → W.heap.size ≤ b1 → W.heap.size ≤ b2 → b1 ≠ b2 → x p1 = .pointer (some ⟨b1, 0, none⟩) → x p2 = .pointer (some ⟨b2, 0, none⟩) → Own v b1 (d1 (x r1)) → Own v b2 (if q2 < n then d2 (x r2) else c2) → (∀ (j : Nat) (F : World → Value → Prop), j < n → ¬ j ∈ [p1, q1, p2, q2] → Fs[j]? = some F → ∀ v', Kx (fun b => b = b1 ∨ b = b2) v v' → F v' (x j)) → wpList P l.toArray Q (l.drop n) (fr x) v) : (Code.region id l.toArray true).wp P Q a W := by
  subst ha
  obtain ⟨hn1, hn2, hn3⟩ := hn
  simp only [List.nodup_cons, List.mem_cons, List.not_mem_nil, or_false, not_or, List.nodup_nil, and_true, not_false_eq_true] at hne
  obtain ⟨⟨e1, e2, e3⟩, ⟨e4, e5⟩, e6⟩ := hne
  have kg : ∀ {v v' : World} {b : Nat}, Gr W v → W.heap.size ≤ b → Kx (fun k => k = b) v v' → Gr W v' := fun hg hb g => Kx.toGr ((Kx.gr (Z := noBlock) hg).th g (fun i e => .inr (by subst e; exact hb)))
  have ptr_lt : ∀ {v : World} {b : Nat} {cs : List Value}, Own v b cs → (Value.pointer (some ⟨b, 0, none⟩)) ≠ .pointer (some ⟨v.heap.size, 0, none⟩) := fun o e => by
    have := o.1.1
    simp only [Value.pointer.injEq, Option.some.injEq, Addr.mk.injEq, and_true] at e
    omega
  have r11 : ∀ j, j = p1 ∨ j = q1 ∨ j = p2 ∨ j = q2 → j ≠ r1 := fun j h e => hnr.1 (by subst e; simpa using h)
  have r22 : ∀ j, j = p1 ∨ j = q1 ∨ j = p2 ∨ j = q2 → j ≠ r2 := fun j h e => hnr.2 (by subst e; simpa using h)
  have r1q : r1 ≠ q1 := fun e => r11 q1 (.inr (.inl rfl)) e.symm
  have r2q : r2 ≠ q2 := fun e => r22 q2 (.inr (.inr (.inr rfl))) e.symm
  refine wp_region_inv' n ds (fun _ listed a v => ∃ x, a = fr x ∧ Gr W v ∧ (∀ b, VarSet x listed p1 p2 b → W.heap.size ≤ b ∧ b < v.heap.size) ∧ (∀ (j : Nat) (F : World → Value → Prop), ¬ j ∈ [p1, q1, p2, q2] → Fs[j]? = some F → listed.getD j false = true → ∀ v', Kx (VarSet x listed p1 p2) v v' → F v' (x j)) ∧ PairHeld W x v listed p1 q1 c1 (d1 (x r1)) ∧ PairHeld W x v listed p2 q2 c2 (d2 (x r2)) ∧ (listed.getD p1 false = true → listed.getD p2 false = true → x p1 ≠ x p2) ∧ (listed.getD q1 false = true → listed.getD p1 false = true ∧ listed.getD r1 false = true) ∧ (listed.getD q2 false = true → listed.getD p2 false = true ∧ listed.getD r2 false = true) ∧ (listed.getD q2 false = true → q2 < n)) hm hB hD ⟨x0, rfl, Gr.dr W, fun b h => (by rcases h with ⟨h, _⟩ | ⟨h, _⟩ <;> (rw [getD_replicate_false] at h; cases h)), fun j F _ _ h => (by rw [getD_replicate_false] at h; cases h), fun h => (by rw [getD_replicate_false] at h; cases h), fun h => (by rw [getD_replicate_false] at h; cases h), fun h => (by rw [getD_replicate_false] at h; cases h), fun h => (by rw [getD_replicate_false] at h; cases h), fun h => (by rw [getD_replicate_false] at h; cases h), fun h => (by rw [getD_replicate_false] at h; cases h)⟩ ?_ ?_
  · rintro i hi listed a v hun hdep ⟨x, rfl, gv, hV, hf, h1, h2, h3, h4, h5, h6⟩
    have hdf : ∀ (j : Nat) (F : World → Value → Prop), (i, j) ∈ ds → ¬ j ∈ [p1, q1, p2, q2] → Fs[j]? = some F → ∀ v', Kx (VarSet x listed p1 p2) v v' → F v' (x j) := fun j F hj e1 hF => hf j F e1 hF (hdep j hj)
    have hdn : ∀ (j : Nat) (F : World → Value → Prop), (i, j) ∈ ds → ¬ j ∈ [p1, q1, p2, q2] → Fs[j]? = some F → F v (x j) := fun j F hj e1 hF => hf j F e1 hF (hdep j hj) v (Kx.refl _ _)
    obtain ⟨hif, hit⟩ := getD_hun hun
    -- a variable that is written: what is said stays
    have fkeep' : ∀ {v' : World} {b : Nat}, VarSet x listed p1 p2 b → Kx (fun k => k = b) v v' → i ∈ [p1, q1, p2, q2] → (∀ c, VarSet x (listed.setIfInBounds i true) p1 p2 c → VarSet x listed p1 p2 c) → ∀ (j : Nat) (F : World → Value → Prop), ¬ j ∈ [p1, q1, p2, q2] → Fs[j]? = some F → (listed.setIfInBounds i true).getD j false = true → ∀ v'', Kx (VarSet x (listed.setIfInBounds i true) p1 p2) v' v'' → F v'' (x j) := fun hb k hi hs j F hj hF hl v'' k2 => by
      have hji : j ≠ i := fun e => hj (e ▸ hi)
      refine hf j F hj hF (by rwa [getD_set_ne false (fun e => hji e.symm)] at hl) v'' ((k.mono (fun c e => .inl ?_)).th k2 (fun c e => .inl (hs c e)))
      subst e
      exact hb
    by_cases a1 : i = p1
    · subst a1
      have hg := Gr.al v (.cells c1.toArray t1)
      have hqf : listed.getD q1 false = false := by
        cases hb : listed.getD q1 false with
        | false => rfl
        | true =>
          have := (h4 hb).1
          rw [hif] at this
          cases this
      have hs : ∀ c, VarSet (upd x i (.pointer (some ⟨v.heap.size, 0, none⟩))) (listed.setIfInBounds i true) i p2 c → VarSet x listed i p2 c ∨ c = v.heap.size := fun c h => by
        rcases h with ⟨_, h⟩ | ⟨h, h'⟩
        · rw [upd_at] at h
          simp only [Value.pointer.injEq, Option.some.injEq, Addr.mk.injEq, and_true] at h
          exact .inr h.symm
        · rw [getD_set_ne false e2] at h
          rw [upd_ne x _ (fun e => e2 e.symm)] at h'
          exact .inl (.inr ⟨h, h'⟩)
      refine hp1 x v gv _ ⟨_, rfl, gv.tr hg, fun b h => ?_, fun j F hj hF hl v'' k2 => ?_, fun _ => ⟨_, upd_at _ _ _, gv.size, ?_⟩, ?_, fun _ hl => ?_, fun hl => ?_, fun hl => ?_, fun hl => h6 (by rwa [getD_set_ne false e3] at hl)⟩
      · rcases hs b h with h | h
        · have := hV b h
          have := hg.size
          omega
        · subst h
          have := gv.size
          simp
          omega
      · have hji : j ≠ i := fun e => hj (by subst e; simp)
        rw [upd_ne x _ hji]
        refine hf j F hj hF (by rwa [getD_set_ne false (fun e => hji e.symm)] at hl) v'' ((Kx.gr hg).th k2 (fun c e => ?_))
        rcases hs c e with h | h
        · exact .inl h
        · exact .inr (by omega)
      · rw [getD_set_ne false e1, hqf]
        exact Own.new v c1 t1 _ rfl
      · rw [upd_ne x _ (fun e => r22 i (.inl rfl) e.symm)]
        exact h2.gr hg _ e2 e3
      · rw [getD_set_ne false e2] at hl
        obtain ⟨b, g1, g2, g3⟩ := h2 hl
        rw [upd_at, upd_ne x _ (fun e => e2 e.symm), g1]
        exact fun e => ptr_lt g3 e.symm
      · exfalso
        rw [getD_set_ne false e1, hqf] at hl
        cases hl
      · rw [getD_set_ne false e3] at hl
        rw [getD_set_ne false e2, getD_set_ne false (r22 i (.inl rfl))]
        exact h5 hl
    · by_cases a2 : i = p2
      · subst a2
        have hg := Gr.al v (.cells c2.toArray t2)
        have hqf : listed.getD q2 false = false := by
          cases hb : listed.getD q2 false with
          | false => rfl
          | true =>
            have := (h5 hb).1
            rw [hif] at this
            cases this
        have hs : ∀ c, VarSet (upd x i (.pointer (some ⟨v.heap.size, 0, none⟩))) (listed.setIfInBounds i true) p1 i c → VarSet x listed p1 i c ∨ c = v.heap.size := fun c h => by
          rcases h with ⟨h, h'⟩ | ⟨_, h⟩
          · rw [getD_set_ne false a1] at h
            rw [upd_ne x _ (fun e => a1 e.symm)] at h'
            exact .inl (.inl ⟨h, h'⟩)
          · rw [upd_at] at h
            simp only [Value.pointer.injEq, Option.some.injEq, Addr.mk.injEq, and_true] at h
            exact .inr h.symm
        refine hp2 x v gv _ ⟨_, rfl, gv.tr hg, fun b h => ?_, fun j F hj hF hl v'' k2 => ?_, ?_, fun _ => ⟨_, upd_at _ _ _, gv.size, ?_⟩, fun hl _ => ?_, fun hl => ?_, fun hl => ?_, fun hl => h6 (by rwa [getD_set_ne false e6] at hl)⟩
        · rcases hs b h with h | h
          · have := hV b h
            have := hg.size
            omega
          · subst h
            have := gv.size
            simp
            omega
        · have hji : j ≠ i := fun e => hj (by subst e; simp)
          rw [upd_ne x _ hji]
          refine hf j F hj hF (by rwa [getD_set_ne false (fun e => hji e.symm)] at hl) v'' ((Kx.gr hg).th k2 (fun c e => ?_))
          rcases hs c e with h | h
          · exact .inl h
          · exact .inr (by omega)
        · rw [upd_ne x _ (fun e => r11 i (.inr (.inr (.inl rfl))) e.symm)]
          exact h1.gr hg _ a1 (fun e => e4 e.symm)
        · rw [getD_set_ne false e6, hqf]
          exact Own.new v c2 t2 _ rfl
        · rw [getD_set_ne false a1] at hl
          obtain ⟨b, g1, g2, g3⟩ := h1 hl
          rw [upd_at, upd_ne x _ (fun e => a1 e.symm), g1]
          exact fun e => ptr_lt g3 e
        · rw [getD_set_ne false (fun e => e4 e.symm)] at hl
          rw [getD_set_ne false a1, getD_set_ne false (r11 i (.inr (.inr (.inl rfl))))]
          exact h4 hl
        · exfalso
          rw [getD_set_ne false e6, hqf] at hl
          cases hl
      · have hvs : ∀ c, VarSet x (listed.setIfInBounds i true) p1 p2 c → VarSet x listed p1 p2 c := fun c h => by
          rcases h with ⟨h, h'⟩ | ⟨h, h'⟩
          · rw [getD_set_ne false a1] at h
            exact .inl ⟨h, h'⟩
          · rw [getD_set_ne false a2] at h
            exact .inr ⟨h, h'⟩
        by_cases a3 : i = q1
        · subst a3
          have hpt := hdep p1 hd1
          have hrt := hdep r1 hr1
          obtain ⟨b, g1, g2, g3⟩ := h1 hpt
          rw [hif] at g3
          refine hq1 x v b gv g2 g1 g3 hdn _ (fun v' k o => ⟨x, rfl, kg gv g2 k, fun c h => ?_, fkeep' (.inl ⟨hpt, g1⟩) k (by simp) hvs, fun _ => ⟨b, g1, g2, ?_⟩, h2.kx k (fun hl e => h3 hpt hl (by rw [g1, e])) e4 e5, fun ha hb => ?_, fun _ => ?_, fun hl => ?_, fun hl => h6 (by rwa [getD_set_ne false e5] at hl)⟩)
          · have := hV c (hvs c h)
            have := k.size
            omega
          · rw [hit]
            exact o
          · rw [getD_set_ne false (fun e => e1 e.symm)] at ha
            rw [getD_set_ne false e4] at hb
            exact h3 ha hb
          · rw [getD_set_ne false (fun e => e1 e.symm), getD_set_ne false (fun e => r1q e.symm)]
            exact ⟨hpt, hrt⟩
          · rw [getD_set_ne false e5] at hl
            rw [getD_set_ne false e4, getD_set_ne false (r22 i (.inr (.inl rfl)))]
            exact h5 hl
        · by_cases a4 : i = q2
          · subst a4
            have hpt := hdep p2 (hd2 hi)
            have hrt := hdep r2 (hr2 hi)
            obtain ⟨b, g1, g2, g3⟩ := h2 hpt
            rw [hif] at g3
            refine hq2 hi x v b gv g2 g1 g3 hdn _ (fun v' k o => ⟨x, rfl, kg gv g2 k, fun c h => ?_, fkeep' (.inr ⟨hpt, g1⟩) k (by simp) hvs, h1.kx k (fun hl e => h3 hl hpt (by rw [g1, e])) a1 a3, fun _ => ⟨b, g1, g2, ?_⟩, fun ha hb => ?_, fun hl => ?_, fun _ => ?_, fun _ => hi⟩)
            · have := hV c (hvs c h)
              have := k.size
              omega
            · rw [hit]
              exact o
            · rw [getD_set_ne false a1] at ha
              rw [getD_set_ne false a2] at hb
              exact h3 ha hb
            · rw [getD_set_ne false a3] at hl
              rw [getD_set_ne false a1, getD_set_ne false (r11 i (.inr (.inr (.inr rfl))))]
              exact h4 hl
            · rw [getD_set_ne false a2, getD_set_ne false (fun e => r2q e.symm)]
              exact ⟨hpt, hrt⟩
          · refine hstep i hi a1 a3 a2 a4 x v (VarSet x listed p1 p2) gv hV hdf _ (fun u v' hg hu => ?_)
            have hvu : ∀ c, VarSet (upd x i u) (listed.setIfInBounds i true) p1 p2 c → VarSet x listed p1 p2 c := fun c h => by
              rcases h with ⟨h, h'⟩ | ⟨h, h'⟩
              · rw [getD_set_ne false a1] at h
                rw [upd_ne x u (fun e => a1 e.symm)] at h'
                exact .inl ⟨h, h'⟩
              · rw [getD_set_ne false a2] at h
                rw [upd_ne x u (fun e => a2 e.symm)] at h'
                exact .inr ⟨h, h'⟩
            have hu1 : PairHeld W (upd x i u) v' (listed.setIfInBounds i true) p1 q1 c1 (d1 (upd x i u r1)) := by
              by_cases e : r1 = i
              · have hq : listed.getD q1 false = false := by
                  cases hb : listed.getD q1 false with
                  | false => rfl
                  | true =>
                    have := (h4 hb).2
                    rw [e, hif] at this
                    cases this
                intro hl
                obtain ⟨b, g1, g2, g3⟩ := (h1.gr hg u a1 a3) hl
                refine ⟨b, g1, g2, ?_⟩
                rw [getD_set_ne false a3, hq] at g3 ⊢
                exact g3
              · rw [upd_ne x u e]
                exact h1.gr hg u a1 a3
            have hu2 : PairHeld W (upd x i u) v' (listed.setIfInBounds i true) p2 q2 c2 (d2 (upd x i u r2)) := by
              by_cases e : r2 = i
              · have hq : listed.getD q2 false = false := by
                  cases hb : listed.getD q2 false with
                  | false => rfl
                  | true =>
                    have := (h5 hb).2
                    rw [e, hif] at this
                    cases this
                intro hl
                obtain ⟨b, g1, g2, g3⟩ := (h2.gr hg u a2 a4) hl
                refine ⟨b, g1, g2, ?_⟩
                rw [getD_set_ne false a4, hq] at g3 ⊢
                exact g3
              · rw [upd_ne x u e]
                exact h2.gr hg u a2 a4
            refine ⟨upd x i u, rfl, gv.tr hg, fun c h => ?_, fun j F hj hF hl v'' k2 => ?_, hu1, hu2, fun ha hb => ?_, fun hl => ?_, fun hl => ?_, fun hl => h6 (by rwa [getD_set_ne false a4] at hl)⟩
            · have := hV c (hvu c h)
              have := hg.size
              omega
            · by_cases e : j = i
              · subst e
                rw [upd_at]
                exact hu F hF v'' (k2.mono (fun c e => .inl (hvu c e)))
              · rw [upd_ne x u e]
                exact hf j F hj hF (by rwa [getD_set_ne false (fun e' => e e'.symm)] at hl) v'' ((Kx.gr hg).th k2 (fun c e => .inl (hvu c e)))
            · rw [getD_set_ne false a1] at ha
              rw [getD_set_ne false a2] at hb
              rw [upd_ne x u (fun e => a1 e.symm), upd_ne x u (fun e => a2 e.symm)]
              exact h3 ha hb
            · rw [getD_set_ne false a3] at hl
              have := h4 hl
              refine ⟨by rw [getD_set_ne false a1]; exact this.1, ?_⟩
              by_cases e : i = r1
              · subst e; exact hit
              · rw [getD_set_ne false e]; exact this.2
            · rw [getD_set_ne false a4] at hl
              have := h5 hl
              refine ⟨by rw [getD_set_ne false a2]; exact this.1, ?_⟩
              by_cases e : i = r2
              · subst e; exact hit
              · rw [getD_set_ne false e]; exact this.2
  · rintro listed a v hs hall ⟨x, rfl, gv, hV, hf, h1, h2, h3, h4, h5, h6⟩
    have hl : ∀ j, j < n → listed.getD j false = true := fun j hj => by
      have e1 := hall j hj
      have hl : j < listed.size := by omega
      simp [hl] at e1 ⊢
      exact e1
    obtain ⟨b1, g1, g2, g3⟩ := h1 (hl _ hn1)
    obtain ⟨b2, g4, g5, g6⟩ := h2 (hl _ hn3)
    rw [hl _ hn2, if_pos rfl] at g3
    have e7 : (if q2 < n then d2 (x r2) else c2) = (if listed.getD q2 false = true then d2 (x r2) else c2) := by
      by_cases e : q2 < n
      · rw [if_pos e, hl _ e, if_pos rfl]
      · rw [if_neg e, if_neg (fun e' => e (h6 e'))]
    rw [← e7] at g6
    refine hend x v b1 b2 gv g2 g5 (fun e => h3 (hl _ hn1) (hl _ hn3) (by rw [g1, g4, e])) g1 g4 g3 g6 (fun j F hj e1 hF v' k => hf j F e1 hF (hl j hj) v' (k.mono (fun c e => .inl ?_)))
    rcases e with e | e
    · subst e; exact .inl ⟨hl _ hn1, g1⟩
    · subst e; exact .inr ⟨hl _ hn3, g4⟩

end Go.Proofs.Ytcdilmagcdbogaa

namespace Go.Proofs.Ytcdilmagcdbogaa
set_option linter.unusedVariables false
set_option linter.unusedSimpArgs false
open Go.RowKit Go.Shelf
attribute [local go_sem] Oper.semAt_some

/-- What can be true of the test at a place. -/
def truthAt (off : Int) (made : List Int) (k : Nat) : Int × Int := match made[k]? with
  | some r => (max 0 (r - off), min 100000 (r + off))
  | none => (0, 100000)

def truthsL (tests : Nat) (off : Int) (made : List Int) : List (Int × Int) := (List.range tests).map (truthAt off made)

def encTr (x : Int × Int) : Array Value := #[.agg #[.int .i64 x.1, .int .i64 x.2]]

theorem truthsL_take {tests : Nat} {off : Int} {made : List Int} {k : Nat} (hk : k < tests) : (truthsL tests off made).take (k + 1) = (truthsL tests off made).take k ++ [truthAt off made k] := by
  rw [List.take_add_one]
  congr 1
  simp [truthsL, hk]

def TrB (x : Int × Int) : Prop := 0 ≤ x.1 ∧ x.1 ≤ 100000 ∧ 0 ≤ x.2 ∧ x.2 ≤ 100000

theorem truthAt_bd {off : Int} {made : List Int} (o0 : 0 ≤ off) (o1 : off ≤ 1000) (hB : ∀ r ∈ made, 0 ≤ r ∧ r ≤ 100000) (k : Nat) : TrB (truthAt off made k) := by
  unfold truthAt TrB
  split
  · rename_i r hr
    obtain ⟨h0, h1⟩ := hB r (List.mem_of_getElem? hr)
    dsimp only
    omega
  · dsimp only
    omega

set_option maxRecDepth 100000 in
set_option maxHeartbeats 4000000 in
theorem truths_seq (n : Nat) (hn : 1 ≤ n) (b1 b2 : Nat) (tests : Nat) (mean low bad off : Int) (rv : Value) (a : Option Addr) (cap : Nat) (made : List Int) (ht : tests ≤ 1000000) (o0 : 0 ≤ off) (o1 : off ≤ 1000) (hB : ∀ r ∈ made, 0 ≤ r ∧ r ≤ 100000)
    (Z0 : Nat → Prop) (w0 : World) (hst : St Z0 (fun V => Own V b1 [.int .i64 (tests : Int), .int .i64 mean, .int .i64 low, .int .i64 bad, .int .i64 off, rv] ∧ Own V b2 [.slice a made.length cap] ∧ IRow V a made) w0) :
    SeqX Fence.wide n Try.prog 155 #[.pointer (some ⟨b1, 0, none⟩), .pointer (some ⟨b2, 0, none⟩)] encTr (fun _ _ x _ => TrB x) (fun xs => xs = truthsL tests off made) (fun pre => ∃ k, k ≤ tests ∧ pre = (truthsL tests off made).take k) Z0 w0 := by
  intro i0 J Jx X0 W hk0 hX0 hJ hJx hY h0
  refine callsIn_of_wp Try.func155 rfl trivial ?_ rfl
  simp only [Try.ntmps155, List.size_toArray, List.length_cons, List.length_nil, Nat.reduceAdd, Nat.reduceSub, Array.replicate_succ, Array.replicate_zero, List.push_toArray, List.append_toArray, List.nil_append, List.cons_append]
  have HY := Lib.hid hY
  have HJ := Lib.hid hJ
  have HS := Lib.hid hst
  have HB := Lib.hid hB
  obtain ⟨h1, _, _⟩ := hst W hk0
  have q0 := h1.1.2 0 _ rfl
  have H0 := Lib.hid h0
  have HK := Lib.hid hk0
  have HX0 := Lib.hid hX0
  clear hY hJ hX0 hst hB hJx h0 hk0 h1
  gi_wp2
  clear q0
  gi_loopw [9] (fun i wr => ∃ k : Nat, k ≤ tests ∧ i = .int .i64 k ∧ ∃ pre X, pre = (truthsL tests off made).take k ∧ J pre X noBlock wr ∧ (∀ i, X i → i < wr.heap.size ∧ (Z0 i ∨ w0.heap.size ≤ i)) ∧ Kx Z0 w0 wr) (fun i _ => tests - (intOf i).toNat)
  case atStart => exact ⟨0, Nat.zero_le _, rfl, [], X0, rfl, H0.out, HX0.out, HK.out⟩
  case round =>
    obtain ⟨k, hk, rfl, pre, X, hpre, hj, hX, hkV⟩ := hrel
    obtain ⟨d1, d2, hrow⟩ := HS.out wr hkV
    by_cases hlt : k < tests
    · have gU := Gr.al wr (.cells #[.int .i64 0, .int .i64 100000] 45)
      have oU := Own.new wr [.int .i64 0, .int .i64 100000] 45 wr.heap.size rfl
      have p2 := (d2.keep gU).1.c1
      have HT := Lib.hid (truthAt_bd o0 o1 HB.out k)
      have HX := Lib.hid hX
      have HKV := Lib.hid hkV
      have HP := Lib.hid hpre
      have HJJ := Lib.hid hj
      have D1 := Lib.hid d1
      have D2 := Lib.hid d2
      have HR := Lib.hid hrow
      have GU := Lib.hid gU
      have OU := Lib.hid oU
      clear d1 hX hkV hpre hj gU oU
      by_cases hm : k < made.length
      · obtain ⟨r, hrm⟩ : ∃ r, made[k]? = some r := ⟨made[k], by simp [hm]⟩
        obtain ⟨r0, r1⟩ := HB.out r (List.mem_of_getElem? hrm)
        have hT : truthAt off made k = (max 0 (r - off), min 100000 (r + off)) := by simp [truthAt, hrm]
        obtain ⟨c, o, rfl, hc, hcell⟩ := IRow.get HR.out hrm
        have HT1 := Lib.hid hT
        clear hT
        gi_wp2
        refine wpIn_wide.2 ?_
        refine wp_region_facts 7 [(1, 0), (4, 2), (4, 3), (5, 4), (6, 1), (6, 5)] (fun x => ⟨#[.func (.yield i0) #[] #[], .pointer (some ⟨b1, 0, none⟩), .pointer (some ⟨b2, 0, none⟩), undef, .int .i64 (k : Int), .pointer (some ⟨wr.heap.size, 0, none⟩), .pointer (some ⟨b1, 0, none⟩), .pointer (some ⟨b1, 0, none⟩), .int .i64 (tests : Int), .int .i64 (k : Int), .bool true, .int .i64 (k : Int), .agg #[.int .i64 0, .int .i64 100000], .int .i64 (k : Int), .slice (some ⟨c, o, none⟩) made.length cap, .int .i64 (made.length : Int), .bool true, x 0, x 1, x 2, x 3, x 4, x 5, x 6, u24, u25, u26, u27, u28], []⟩) (fun i => [u17, u18, u19, u20, u21, u22, u23].getD i undef) [fun _ x => x = .pointer (some ⟨b1, 4, none⟩), fun _ x => x = .agg #[.int .i64 off], fun _ x => x = .slice (some ⟨c, o, none⟩) made.length cap, fun _ x => x = .int .i64 (k : Int), fun _ x => x = .pointer (some ⟨c, o + k, none⟩), fun _ x => x = .int .i64 r, fun _ x => x = .agg #[.int .i64 (max 0 (r - off)), .int .i64 (min 100000 (r + off))]] (by rfl) (by kernel_rfl) (by kernel_rfl) (by kernel_rfl) (stays_cons (Stays.eq _) (stays_cons (Stays.eq _) (stays_cons (Stays.eq _) (stays_cons (Stays.eq _) (stays_cons (Stays.eq _) (stays_cons (Stays.eq _) (stays_cons (Stays.eq _) stays_nil))))))) ?step5 ?fin5
        case step5 =>
          rintro i hi x v gv hd K hK
          have hi8 : i = 0 ∨ i = 1 ∨ i = 2 ∨ i = 3 ∨ i = 4 ∨ i = 5 ∨ i = 6 := by omega
          rcases hi8 with rfl | rfl | rfl | rfl | rfl | rfl | rfl
          · show wpOp Try.prog _ _ 0 K (⟨#[.func (.yield i0) #[] #[], .pointer (some ⟨b1, 0, none⟩), .pointer (some ⟨b2, 0, none⟩), undef, .int .i64 (k : Int), .pointer (some ⟨wr.heap.size, 0, none⟩), .pointer (some ⟨b1, 0, none⟩), .pointer (some ⟨b1, 0, none⟩), .int .i64 (tests : Int), .int .i64 (k : Int), .bool true, .int .i64 (k : Int), .agg #[.int .i64 0, .int .i64 100000], .int .i64 (k : Int), .slice (some ⟨c, o, none⟩) made.length cap, .int .i64 (made.length : Int), .bool true, x 0, x 1, x 2, x 3, x 4, x 5, x 6, u24, u25, u26, u27, u28], []⟩ : Act) v
            refine wpOp_step rfl (fun K' hK' => ?_)
            go_simp
            exact hK' _ _ (hK _ _ (Below.refl _ _) (at_of rfl (rfl)))
          · obtain ⟨x, rfl⟩ := upd_of (show x 0 = .pointer (some ⟨b1, 4, none⟩) from hd 0 _ (by simp) rfl)
            show wpOp Try.prog _ _ 1 K (⟨#[.func (.yield i0) #[] #[], .pointer (some ⟨b1, 0, none⟩), .pointer (some ⟨b2, 0, none⟩), undef, .int .i64 (k : Int), .pointer (some ⟨wr.heap.size, 0, none⟩), .pointer (some ⟨b1, 0, none⟩), .pointer (some ⟨b1, 0, none⟩), .int .i64 (tests : Int), .int .i64 (k : Int), .bool true, .int .i64 (k : Int), .agg #[.int .i64 0, .int .i64 100000], .int .i64 (k : Int), .slice (some ⟨c, o, none⟩) made.length cap, .int .i64 (made.length : Int), .bool true, .pointer (some ⟨b1, 4, none⟩), x 1, x 2, x 3, x 4, x 5, x 6, u24, u25, u26, u27, u28], []⟩ : Act) v
            refine wpOp_step rfl (fun K' hK' => ?_)
            have q := ((D1.out.keep GU.out).keep gv).1.2 4 _ rfl
            go_simp
            exact hK' _ _ (hK _ _ (Below.refl _ _) (at_of rfl (rfl)))
          · show wpOp Try.prog _ _ 2 K (⟨#[.func (.yield i0) #[] #[], .pointer (some ⟨b1, 0, none⟩), .pointer (some ⟨b2, 0, none⟩), undef, .int .i64 (k : Int), .pointer (some ⟨wr.heap.size, 0, none⟩), .pointer (some ⟨b1, 0, none⟩), .pointer (some ⟨b1, 0, none⟩), .int .i64 (tests : Int), .int .i64 (k : Int), .bool true, .int .i64 (k : Int), .agg #[.int .i64 0, .int .i64 100000], .int .i64 (k : Int), .slice (some ⟨c, o, none⟩) made.length cap, .int .i64 (made.length : Int), .bool true, x 0, x 1, x 2, x 3, x 4, x 5, x 6, u24, u25, u26, u27, u28], []⟩ : Act) v
            refine wpOp_step rfl (fun K' hK' => ?_)
            have q := ((D2.out.keep GU.out).keep gv).1.c1
            go_simp
            exact hK' _ _ (hK _ _ (Below.refl _ _) (at_of rfl (rfl)))
          · show wpOp Try.prog _ _ 3 K (⟨#[.func (.yield i0) #[] #[], .pointer (some ⟨b1, 0, none⟩), .pointer (some ⟨b2, 0, none⟩), undef, .int .i64 (k : Int), .pointer (some ⟨wr.heap.size, 0, none⟩), .pointer (some ⟨b1, 0, none⟩), .pointer (some ⟨b1, 0, none⟩), .int .i64 (tests : Int), .int .i64 (k : Int), .bool true, .int .i64 (k : Int), .agg #[.int .i64 0, .int .i64 100000], .int .i64 (k : Int), .slice (some ⟨c, o, none⟩) made.length cap, .int .i64 (made.length : Int), .bool true, x 0, x 1, x 2, x 3, x 4, x 5, x 6, u24, u25, u26, u27, u28], []⟩ : Act) v
            refine wpOp_step rfl (fun K' hK' => ?_)
            go_simp
            exact hK' _ _ (hK _ _ (Below.refl _ _) (at_of rfl (rfl)))
          · obtain ⟨x, rfl⟩ := upd_of (show x 2 = .slice (some ⟨c, o, none⟩) made.length cap from hd 2 _ (by simp) rfl)
            obtain ⟨x, rfl⟩ := upd_of (show x 3 = .int .i64 (k : Int) from hd 3 _ (by simp) rfl)
            show wpOp Try.prog _ _ 4 K (⟨#[.func (.yield i0) #[] #[], .pointer (some ⟨b1, 0, none⟩), .pointer (some ⟨b2, 0, none⟩), undef, .int .i64 (k : Int), .pointer (some ⟨wr.heap.size, 0, none⟩), .pointer (some ⟨b1, 0, none⟩), .pointer (some ⟨b1, 0, none⟩), .int .i64 (tests : Int), .int .i64 (k : Int), .bool true, .int .i64 (k : Int), .agg #[.int .i64 0, .int .i64 100000], .int .i64 (k : Int), .slice (some ⟨c, o, none⟩) made.length cap, .int .i64 (made.length : Int), .bool true, x 0, x 1, .slice (some ⟨c, o, none⟩) made.length cap, .int .i64 (k : Int), x 4, x 5, x 6, u24, u25, u26, u27, u28], []⟩ : Act) v
            refine wpOp_step rfl (fun K' hK' => ?_)
            go_simp
            exact hK' _ _ (hK _ _ (Below.refl _ _) (at_of rfl (rfl)))
          · obtain ⟨x, rfl⟩ := upd_of (show x 4 = .pointer (some ⟨c, o + k, none⟩) from hd 4 _ (by simp) rfl)
            show wpOp Try.prog _ _ 5 K (⟨#[.func (.yield i0) #[] #[], .pointer (some ⟨b1, 0, none⟩), .pointer (some ⟨b2, 0, none⟩), undef, .int .i64 (k : Int), .pointer (some ⟨wr.heap.size, 0, none⟩), .pointer (some ⟨b1, 0, none⟩), .pointer (some ⟨b1, 0, none⟩), .int .i64 (tests : Int), .int .i64 (k : Int), .bool true, .int .i64 (k : Int), .agg #[.int .i64 0, .int .i64 100000], .int .i64 (k : Int), .slice (some ⟨c, o, none⟩) made.length cap, .int .i64 (made.length : Int), .bool true, x 0, x 1, x 2, x 3, .pointer (some ⟨c, o + k, none⟩), x 5, x 6, u24, u25, u26, u27, u28], []⟩ : Act) v
            refine wpOp_step rfl (fun K' hK' => ?_)
            have q := (GU.out.tr gv).keep hcell
            go_simp
            exact hK' _ _ (hK _ _ (Below.refl _ _) (at_of rfl (rfl)))
          · obtain ⟨x, rfl⟩ := upd_of (show x 1 = .agg #[.int .i64 off] from hd 1 _ (by simp) rfl)
            obtain ⟨x, rfl⟩ := upd_of (show x 5 = .int .i64 r from hd 5 _ (by simp) rfl)
            show wpOp Try.prog _ _ 6 K (⟨#[.func (.yield i0) #[] #[], .pointer (some ⟨b1, 0, none⟩), .pointer (some ⟨b2, 0, none⟩), undef, .int .i64 (k : Int), .pointer (some ⟨wr.heap.size, 0, none⟩), .pointer (some ⟨b1, 0, none⟩), .pointer (some ⟨b1, 0, none⟩), .int .i64 (tests : Int), .int .i64 (k : Int), .bool true, .int .i64 (k : Int), .agg #[.int .i64 0, .int .i64 100000], .int .i64 (k : Int), .slice (some ⟨c, o, none⟩) made.length cap, .int .i64 (made.length : Int), .bool true, x 0, .agg #[.int .i64 off], x 2, x 3, x 4, .int .i64 r, x 6, u24, u25, u26, u27, u28], []⟩ : Act) v
            refine wpOp_step rfl (fun K' hK' => ?_)
            go_simp
            refine (truth_any off r o0 o1 r0 r1 v).mono ?_
            rintro e v' ⟨rfl, hg⟩
            exact hK' _ _ (hK _ _ hg (at_of rfl (rfl)))
        case fin5 =>
          rintro x v gv hd
          obtain ⟨x, rfl⟩ := upd_of (show x 6 = .agg #[.int .i64 (max 0 (r - off)), .int .i64 (min 100000 (r + off))] from hd 6 _ (by omega) rfl)
          clear hd
          show wpList Try.prog _ _ (List.drop 7 _) (⟨#[.func (.yield i0) #[] #[], .pointer (some ⟨b1, 0, none⟩), .pointer (some ⟨b2, 0, none⟩), undef, .int .i64 (k : Int), .pointer (some ⟨wr.heap.size, 0, none⟩), .pointer (some ⟨b1, 0, none⟩), .pointer (some ⟨b1, 0, none⟩), .int .i64 (tests : Int), .int .i64 (k : Int), .bool true, .int .i64 (k : Int), .agg #[.int .i64 0, .int .i64 100000], .int .i64 (k : Int), .slice (some ⟨c, o, none⟩) made.length cap, .int .i64 (made.length : Int), .bool true, x 0, x 1, x 2, x 3, x 4, x 5, .agg #[.int .i64 (max 0 (r - off)), .int .i64 (min 100000 (r + off))], u24, u25, u26, u27, u28], []⟩ : Act) v
          simp only [List.drop_succ_cons, List.drop_zero]
          have oV := OU.out.keep gv
          obtain ⟨p4, p5⟩ := oV.1.c2
          have z4 := oV.2 0
          have z5 := oV.2 1
          have OV := Lib.hid oV
          have GV := Lib.hid (GU.out.tr gv)
          clear oV gv
          go_wp2
          clear p4 p5 z4 z5
          have oE := (OV.out.set (i := 0) (v := .int .i64 (max 0 (r - off))) (by simp)).set (i := 1) (v := .int .i64 (min 100000 (r + off))) (by simp)
          have gE := (GV.out.setCell (p := ⟨wr.heap.size, 0, none⟩) (Nat.le_refl _) (.int .i64 (max 0 (r - off)))).setCell (p := ⟨wr.heap.size, 1, none⟩) (Nat.le_refl _) (.int .i64 (min 100000 (r + off)))
          obtain ⟨E, hE⟩ : ∃ E, (v.setCell ⟨wr.heap.size, 0, none⟩ (.int .i64 (max 0 (r - off)))).setCell ⟨wr.heap.size, 1, none⟩ (.int .i64 (min 100000 (r + off))) = E := ⟨_, rfl⟩
          dsimp only [List.set] at oE
          rw [hE] at oE gE ⊢
          clear hE
          have hT := HT1.out
          have jE : J pre X noBlock E := HJ.out pre X _ _ _ _ HJJ.out (Kx.gr gE) (fun i e => .inl e)
          obtain ⟨fn, tmps, assign, body, hy, hRR⟩ := HY.out pre (max 0 (r - off), min 100000 (r + off)) X noBlock E jE (by have := HT.out; rw [hT] at this; exact this) ⟨fun i e => by have := (HX.out i e).1; have := gE.size; omega, fun i e => e.elim, fun i e e' => e'⟩
          dsimp only [encTr] at hy
          obtain ⟨p4, p5⟩ := oE.1.c2
          have GE := Lib.hid gE
          have HTT := Lib.hid hT
          clear jE gE oE hT
          gi_wp2
          refine hRR.mono ?_
          clear hRR hy p4 p5
          rintro e W3 ⟨hk3, (⟨rfl, X', hJ3, hX3⟩ | ⟨rfl, hJx3⟩)⟩
          · have HJ3 := Lib.hid hJ3
            have HX3 := Lib.hid hX3
            have Hk3 := Lib.hid hk3
            clear hJ3 hX3 hk3
            gi_wp2
            go_roundw
            case rel =>
              have hw := HKV.out.size
              have hw' := GE.out.size
              refine ⟨k + 1, by omega, by go_num, _, X', ?_, HJ3.out, fun i e => ⟨(HX3.out i e).1, ?_⟩, (HKV.out.th (Kx.gr (Z := noBlock) GE.out) fun i e => e.elim).th Hk3.out fun i e => (HX.out i e).2⟩
              · rw [truthsL_take hlt, HTT.out, HP.out]
              · rcases (HX3.out i e).2 with h | h
                · exact (HX.out i h).2
                · exact .inr (by omega)
            case measure => simp [intOf]; omega
          · gi_wp2
            refine bodyPost_ret (results_none rfl _ _ _) rfl ?_
            refine ⟨⟨_, rfl⟩, .inr ⟨_, _, ⟨k + 1, by omega, ?_⟩, hJx3⟩⟩
            rw [truthsL_take hlt, HTT.out, HP.out]
      · have hT : truthAt off made k = (0, 100000) := by
          have : made[k]? = none := by simp; omega
          simp [truthAt, this]
        have HT1 := Lib.hid hT
        clear hT
        obtain ⟨E, hE⟩ : ∃ E, wr.alloc (.cells #[.int .i64 0, .int .i64 100000] 45) = E := ⟨_, rfl⟩
        have oE := OU.out
        have gE := GU.out
        rw [hE] at oE gE
        have hT := HT1.out
        have jE : J pre X noBlock E := HJ.out pre X _ _ _ _ HJJ.out (Kx.gr gE) (fun i e => .inl e)
        obtain ⟨fn, tmps, assign, body, hy, hRR⟩ := HY.out pre (0, 100000) X noBlock E jE (by have := HT.out; rw [hT] at this; exact this) ⟨fun i e => by have := (HX.out i e).1; have := gE.size; omega, fun i e => e.elim, fun i e e' => e'⟩
        dsimp only [encTr] at hy
        obtain ⟨p4, p5⟩ := oE.1.c2
        have GE := Lib.hid gE
        have HTT := Lib.hid hT
        clear jE gE oE hT
        subst hE
        gi_wp2
        refine hRR.mono ?_
        clear hRR hy p4 p5
        rintro e W3 ⟨hk3, (⟨rfl, X', hJ3, hX3⟩ | ⟨rfl, hJx3⟩)⟩
        · have HJ3 := Lib.hid hJ3
          have HX3 := Lib.hid hX3
          have Hk3 := Lib.hid hk3
          clear hJ3 hX3 hk3
          gi_wp2
          go_roundw
          case rel =>
            have hw := HKV.out.size
            have hw' := GE.out.size
            refine ⟨k + 1, by omega, by go_num, _, X', ?_, HJ3.out, fun i e => ⟨(HX3.out i e).1, ?_⟩, (HKV.out.th (Kx.gr (Z := noBlock) GE.out) fun i e => e.elim).th Hk3.out fun i e => (HX.out i e).2⟩
            · rw [truthsL_take hlt, HTT.out, HP.out]
            · rcases (HX3.out i e).2 with h | h
              · exact (HX.out i h).2
              · exact .inr (by omega)
          case measure => simp [intOf]; omega
        · gi_wp2
          refine bodyPost_ret (results_none rfl _ _ _) rfl ?_
          refine ⟨⟨_, rfl⟩, .inr ⟨_, _, ⟨k + 1, by omega, ?_⟩, hJx3⟩⟩
          rw [truthsL_take hlt, HTT.out, HP.out]
    · obtain rfl : k = tests := by omega
      gi_wp2
      go_end0
      refine ⟨⟨_, rfl⟩, .inl ⟨pre, X, _, ?_, hj⟩⟩
      rw [hpre]
      exact List.take_of_length_le (by simp [truthsL])

end Go.Proofs.Ytcdilmagcdbogaa

namespace Go.Proofs.Ytcdilmagcdbogaa
set_option linter.unusedVariables false
set_option linter.unusedSimpArgs false
open Go.RowKit

theorem infoInt' : (Try.prog.info? 3).map (fun i => (i.zero, i.size, i.bytes)) = some (some (.int .i64 0), 1, 8) := by kernel_rfl

set_option maxRecDepth 100000 in
set_option maxHeartbeats 2000000 in
theorem grow_nil (n : Nat) (h2 : n ≤ 100000) (w : World) :
    Calls Try.prog 161 #[.slice none 0 0, .int .i64 (n : Int)] w fun e w' => ∃ v, e = .returned v ∧ w'.ownsRow w.heap.size 3 1 v 0 [] ∧ Gr w w' := by
  obtain ⟨i0, hi, hz⟩ := Option.map_eq_some_iff.1 infoInt'
  simp only [Prod.mk.injEq] at hz
  obtain ⟨hz0, hz1, hz2⟩ := hz
  have d0 : decide ((n : Int) < 0) = false := by simp
  by_cases h0 : n = 0
  · subst h0
    go_enter Try.func161, Try.ntmps161
    go_wp2
    go_ret
    exact ⟨_, rfl, ⟨rfl, .inl ⟨rfl, rfl⟩⟩, Below.refl _ _⟩
  · have hold : (Builtin.firstCells i0.size 0 (.slice none 0 0)).run Try.prog w.drew = .ok ([] : List Value).toArray w.drew := run_firstCells_none w.drew i0.size 0 0 0
    have hrz := Lib.run_append_grow_zeros (P := Try.prog) w 24 3 24 3 i0 (.int .i64 0) .i64 .i64 Try.underlying24 Try.underlying3 hi hz0 none 0 0 [] hold n (by omega) (by omega) (by omega) (by omega) (by rw [hz2]; omega) (by rw [hz2]; exact growslice_fits (by omega) (by omega))
    simp only [Nat.zero_add, Nat.sub_zero] at hrz
    have hGn : n ≤ grownCap w n 0 3 := grownCap_ge w _ _ _
    have hG63 := grownCap_le_maxLen w n 0 3 (by unfold maxLen; omega)
    obtain ⟨G, hG⟩ : ∃ G, G = grownCap w n 0 3 := ⟨_, rfl⟩
    rw [← hG] at hrz hGn hG63
    have d1 : decide ((0 : Int) < (n : Int)) = true := by simp; omega
    have v0 : IntKind.i64.wrap (n : Int) = (n : Int) := IntWalk.i64_in _ (by omega)
    clear hold hG
    go_enter Try.func161, Try.ntmps161
    go_wp2_with (at_builtin; refine Lib.wpList_append_run _ rfl _ _ _ _ rfl _ _ rfl rfl _ _ hrz ?_)
    go_ret
    refine ⟨_, rfl, ⟨rfl, .inr ⟨_, G, Builtin.zeroCells #[.int .i64 0] n ++ Builtin.zeroCells #[.int .i64 0] (G - n), rfl, Nat.le_refl _, ?_, Nat.zero_le _, hG63, ?_, rfl⟩⟩, (Gr.al w _).tr (Gr.dr _)⟩
    · exact World.alloc_heap_new w _
    · simp [Builtin.zeroCells]
      omega

theorem ints_news {w : World} {ad : Addr} {l : List Int} (h : IRow w (some ad) l) : ∀ j u, (l.flatMap encI)[j]? = some u → w.cell? (ad.add j) = some u := by
  intro j u hu
  have e : l.flatMap encI = l.map (Value.int .i64) := by
    clear h hu
    induction l with
    | nil => rfl
    | cons x l ih => simp [encI, ih]
  rw [e, List.getElem?_map] at hu
  cases hn : l[j]? with
  | none => rw [hn] at hu; cases hu
  | some n =>
    rw [hn] at hu
    have eu : Value.int .i64 n = u := by simpa using hu
    obtain ⟨b, off, ea, _, hc⟩ := h.2 j n hn
    injection ea with ea
    subst ea
    have := hc 0 _ rfl
    rw [WideShapes.add_plain, ← eu]
    simpa using this

theorem ints_one9 (l : List Int) : ∀ u ∈ l.flatMap encI, u.oneCell' = true := by
  intro u hu
  obtain ⟨x, _, hx⟩ := List.mem_flatMap.1 hu
  have hx' : u ∈ [Value.int .i64 x] := hx
  rw [List.mem_singleton.1 hx']
  rfl

theorem ints_len (l : List Int) : (l.flatMap encI).length = l.length := by
  induction l with
  | nil => rfl
  | cons x l ih => simp [encI, ih]

theorem irow_nil {w : World} {l : List Int} (h : IRow w none l) : l = [] := by
  cases l with
  | nil => rfl
  | cons x l =>
    obtain ⟨b, off, e, _⟩ := h.2 0 x rfl
    cases e

/-- A slice of ints as a value: where, what, its room. -/
structure SJ where
  a : Option Addr
  l : List Int
  c : Nat

def encJ (s : SJ) : List Value := [.slice s.a s.l.length s.c]

abbrev JRow := RowOf 1 encJ

def catL (cs : List SJ) : List Int := cs.flatMap (·.l)

theorem catL_take {cs : List SJ} {k : Nat} {x : SJ} (h : cs[k]? = some x) : catL (cs.take (k + 1)) = catL (cs.take k) ++ x.l := by
  rw [List.take_add_one, h]
  simp [catL]

theorem catL_le : ∀ (cs : List SJ) (k : Nat), (catL (cs.take k)).length ≤ (catL cs).length
  | [], k => by simp [catL]
  | c :: cs, 0 => by simp [catL]
  | c :: cs, k + 1 => by
    have := catL_le cs k
    simp [catL] at this ⊢
    exact this

theorem flatI (l : List Int) : l.flatMap encI = l.map (Value.int .i64) := by induction l with
  | nil => rfl
  | cons x l ih => simp [encI, ih]

set_option maxRecDepth 100000 in
set_option maxHeartbeats 4000000 in
theorem concat_any (cs : List SJ) (hc : cs.length ≤ 100) (hl : (catL cs).length ≤ 100000) (p : Option Addr) (pc : Nat) (w : World) (hp : JRow w p cs) (hr : ∀ c ∈ cs, IRow w c.a c.l ∧ (c.a = none → c.c = 0)) :
    Calls Try.prog 154 #[.slice p cs.length pc] w fun e w' => ∃ v, e = .returned v ∧ w'.ownsRow w.heap.size 3 1 v (catL cs).length ((catL cs).flatMap encI) ∧ Gr w w' := by
  obtain ⟨i0, hi, hz⟩ := Option.map_eq_some_iff.1 infoInt'
  simp only [Prod.mk.injEq] at hz
  obtain ⟨hz0, hz1, hz2⟩ := hz
  have HR := Lib.hid hr
  have HP := Lib.hid hp
  clear hr hp
  go_enter Try.func154, Try.ntmps154
  go_wp2
  go_loopw [11, 3] (fun i t wr => Hid (∃ k : Nat, k ≤ cs.length ∧ i = .int .i64 k ∧ t = .int .i64 ((catL (cs.take k)).length : Int) ∧ wr = w)) (fun i _ _ => cs.length - (intOf i).toNat)
  case atStart => exact Lib.hid ⟨0, Nat.zero_le _, rfl, rfl, rfl⟩
  case round =>
    obtain ⟨k, hk, rfl, rfl, rfl⟩ := hrel.out
    clear hrel
    by_cases hlt : k < cs.length
    · obtain ⟨x, hx⟩ : ∃ x, cs[k]? = some x := ⟨cs[k], by simp [hlt]⟩
      obtain ⟨b, off, rfl, hb, hcell⟩ := HP.out.2 k x hx
      have q := hcell 0 _ rfl
      have e1 := congrArg List.length (catL_take hx)
      rw [List.length_append] at e1
      have e2 := catL_le cs (k + 1)
      have v0 : IntKind.i64.wrap (((catL (cs.take k)).length : Int) + (x.l.length : Int)) = ((catL (cs.take (k + 1))).length : Int) := by rw [IntWalk.i64_in _ (by omega)]; omega
      have d0 : decide (((catL (cs.take (k + 1))).length : Int) < 0) = false := by simp
      simp only [Nat.mul_one, Nat.add_zero] at q
      clear hcell e1 e2 hx
      go_wp2
      go_roundw
      case rel => exact Lib.hid ⟨k + 1, by omega, by go_num, by first | rfl | trivial, by first | rfl | trivial⟩
      case measure => simp [intOf]; omega
    · obtain rfl : k = cs.length := by omega
      rw [List.take_length]
      clear hlt hk
      go_wp2_with (go_at_call 161; refine (grow_nil (catL cs).length hl _).mono ?_; rintro e w1 ⟨v0, rfl, ho, g1⟩)
      have HO := Lib.hid ho
      have G1 := Lib.hid g1
      clear ho g1
      go_loopw [27, 6] (fun i t w2 => Hid (∃ k : Nat, k ≤ cs.length ∧ i = .int .i64 k ∧ w2.ownsRow wr.heap.size 3 1 t (catL (cs.take k)).length ((catL (cs.take k)).flatMap encI) ∧ Gr wr w2)) (fun i _ _ => cs.length - (intOf i).toNat)
      case atStart => exact Lib.hid ⟨0, Nat.zero_le _, rfl, HO.out, G1.out⟩
      case round =>
        rename World => V
        obtain ⟨k, hk, rfl, hown, gV⟩ := hrel.out
        clear hrel
        by_cases hlt : k < cs.length
        · obtain ⟨x, hx⟩ : ∃ x, cs[k]? = some x := ⟨cs[k], by simp [hlt]⟩
          obtain ⟨b, off, rfl, hb, hcell⟩ := (HP.out.grow gV).2 k x hx
          have q := hcell 0 _ rfl
          simp only [Nat.mul_one, Nat.add_zero] at q
          have e1 := catL_take hx
          have e2 := catL_le cs (k + 1)
          obtain ⟨hxr, hxn⟩ := HR.out x (List.mem_of_getElem? hx)
          have hxV := hxr.grow gV
          obtain ⟨xa, xl, xc⟩ := x
          dsimp only at hxr hxn hxV e1 q
          rw [e1, List.length_append] at e2
          have E1 := Lib.hid e1
          have HW := Lib.hid hown
          have GV := Lib.hid gV
          clear hcell hx hxr e1 hown gV
          cases xa with
          | none =>
            obtain rfl := irow_nil hxV
            obtain rfl := hxn rfl
            go_wp2_with (at_builtin; refine wpList_append_own_none rfl _ _ 24 rfl wr.heap.size 3 i0 1 Try.underlying24 hi _ _ _ rfl HW.out rfl ?_)
            go_roundw
            case rel =>
              refine Lib.hid ⟨k + 1, by omega, by go_num, ?_, GV.out⟩
              rw [E1.out, List.append_nil]
              exact HW.out
            case measure => simp [intOf]; omega
          | some ad =>
            have hnews := ints_news hxV
            have HN := Lib.hid hnews
            clear hnews hxV
            have hbase : wr.heap.size ≤ V.heap.size := GV.out.size
            go_wp2_with (at_builtin; refine wpList_append_own _ rfl _ _ 24 rfl wr.heap.size 3 i0 (.int .i64 0) 1 8 Try.underlying24 hi hz0 hz1 hz2 rfl (by decide) _ _ _ rfl HW.out ad xl.length xc (xl.flatMap encI) rfl (by rw [ints_len, Nat.mul_one]) HN.out (ints_one9 xl) (by unfold maxLen; omega) (by omega) hbase ?_; intro v' w' hown' hgr _)
            have HO' := Lib.hid hown'
            have HG' := Lib.hid (GV.out.grown' HW.out (Nat.le_refl _) hgr)
            clear hown' hgr
            go_wp2
            go_roundw
            case rel =>
              refine Lib.hid ⟨k + 1, by omega, by go_num, ?_, HG'.out⟩
              rw [E1.out, List.length_append, List.flatMap_append]
              exact HO'.out
            case measure => simp [intOf]; omega
        · obtain rfl : k = cs.length := by omega
          rw [List.take_length] at hown
          go_wp2
          go_ret
          exact ⟨_, rfl, hown, gV⟩

end Go.Proofs.Ytcdilmagcdbogaa

namespace Go.Proofs.Ytcdilmagcdbogaa
set_option linter.unusedVariables false
set_option linter.unusedSimpArgs false
open Go.RowKit

set_option maxRecDepth 100000 in
set_option maxHeartbeats 2000000 in
theorem truths_any (te me lo ba off : Int) (rl ml : List Int) (ra ma : Option Addr) (rc mc : Nat) (hl : (rl ++ ml).length ≤ 100000) (w : World) (hr : IRow w ra rl) (hrn : ra = none → rc = 0) (hm : IRow w ma ml) (hmn : ma = none → mc = 0) :
    Calls Try.prog 141 #[.agg #[.int .i64 te, .int .i64 me, .int .i64 lo, .int .i64 ba, .int .i64 off, .slice ra rl.length rc], .slice ma ml.length mc] w fun e w' => ∃ b1 b2 a cap, e = .returned (.func (.func 155) #[] #[.pointer (some ⟨b1, 0, none⟩), .pointer (some ⟨b2, 0, none⟩)]) ∧
      w.heap.size ≤ b1 ∧ w.heap.size ≤ b2 ∧ Own w' b1 [.int .i64 te, .int .i64 me, .int .i64 lo, .int .i64 ba, .int .i64 off, .slice ra rl.length rc] ∧ Own w' b2 [.slice a (rl ++ ml).length cap] ∧ IRow w' a (rl ++ ml) ∧ NewAt w.heap.size a ∧ Gr w w' := by
  have hl63 : (rl ++ ml).length ≤ 9223372036854775807 := by omega
  obtain ⟨cs, hcs⟩ : ∃ cs : List SJ, cs = [⟨ra, rl, rc⟩, ⟨ma, ml, mc⟩] := ⟨_, rfl⟩
  have hcat : catL cs = rl ++ ml := by rw [hcs]; simp [catL]
  have o1 := (Own.new w [.int .i64 te, .int .i64 me, .int .i64 lo, .int .i64 ba, .int .i64 off, .slice ra rl.length rc] 147 w.heap.size rfl).keep (Gr.al _ (.cells #[.slice ra rl.length rc, .slice ma ml.length mc] 24))
  have gg := (Gr.al w (.cells #[.int .i64 te, .int .i64 me, .int .i64 lo, .int .i64 ba, .int .i64 off, .slice ra rl.length rc] 147)).tr (Gr.al _ (.cells #[.slice ra rl.length rc, .slice ma ml.length mc] 24))
  have ob := Own.new (w.alloc (.cells #[.int .i64 te, .int .i64 me, .int .i64 lo, .int .i64 ba, .int .i64 off, .slice ra rl.length rc] 147)) [.slice ra rl.length rc, .slice ma ml.length mc] 24 (w.heap.size + 1) (by simp)
  have q5 := (Own.new w [.int .i64 te, .int .i64 me, .int .i64 lo, .int .i64 ba, .int .i64 off, .slice ra rl.length rc] 147 w.heap.size rfl).1.2 5 _ rfl
  have hp : JRow ((w.alloc (.cells #[.int .i64 te, .int .i64 me, .int .i64 lo, .int .i64 ba, .int .i64 off, .slice ra rl.length rc] 147)).alloc (.cells #[.slice ra rl.length rc, .slice ma ml.length mc] 24)) (some ⟨w.heap.size + 1, 0, none⟩) cs := by
    rw [hcs]
    refine ⟨by simp, fun j x hx => ⟨_, 0, rfl, ob.1.1, fun i v hv => ?_⟩⟩
    have hj : j = 0 ∨ j = 1 := by
      have := (List.getElem?_eq_some_iff.1 hx).1
      simp at this
      omega
    have hi : i = 0 := by
      have := (List.getElem?_eq_some_iff.1 hv).1
      simpa [encJ] using this
    subst hi
    rcases hj with rfl | rfl <;> (simp at hx; subst hx; simp [encJ] at hv; subst hv)
    · exact ob.1.2 0 _ rfl
    · exact ob.1.2 1 _ rfl
  have hC := concat_any cs (by rw [hcs]; simp) (by rw [hcat]; exact hl) (some ⟨w.heap.size + 1, 0, none⟩) 2 _ hp (by
    rw [hcs]
    intro c hc
    simp only [List.mem_cons, List.not_mem_nil, or_false] at hc
    rcases hc with rfl | rfl
    · exact ⟨hr.grow gg, hrn⟩
    · exact ⟨hm.grow gg, hmn⟩)
  rw [hcat, show cs.length = 2 by rw [hcs]; rfl] at hC
  have HC := Lib.hid hC
  have O1 := Lib.hid o1
  have GG := Lib.hid gg
  clear hC hp ob o1 gg hcat hcs
  go_enter Try.func141, Try.ntmps141
  go_wp2_with (go_at_call 154; refine HC.out.mono ?_; rintro e w1 ⟨v, rfl, ho, g1⟩; obtain ⟨a, cap, rfl, hrow, hnew⟩ := owns_row_new (enc := encI) (sz := 1) (l := rl ++ ml) (fun _ => rfl) hl63 ho; have HR := Lib.hid hrow; have HN := Lib.hid hnew; have G1 := Lib.hid g1; clear ho hrow hnew g1)
  go_ret
  refine ⟨_, _, a, cap, rfl, Nat.le_refl _, ?_, (O1.out.keep G1.out).keep (Gr.al _ _), by rw [List.length_append]; exact Own.new w1 [_] 24 _ rfl, HR.out.grow (Gr.al _ _), HN.out.le GG.out.size, (GG.out.tr G1.out).tr (Gr.al _ _)⟩
  have := (GG.out.tr G1.out).size
  exact this

end Go.Proofs.Ytcdilmagcdbogaa

namespace Go.Proofs.Ytcdilmagcdbogaa
set_option linter.unusedVariables false
set_option linter.unusedSimpArgs false
open Go.RowKit Go.Shelf
attribute [local go_sem] Oper.semAt_some

def sumS (hi : Bool) : List (Int × Int) → Int
  | [] => 0
  | x :: l => (if hi then x.2 else x.1) + sumS hi l

def badS (hi : Bool) (low : Int) : List (Int × Int) → Int
  | [] => 0
  | x :: l => (if (if hi then x.2 else x.1) < low then 1 else 0) + badS hi low l

theorem sumS_app (hi : Bool) (x : Int × Int) : ∀ l, sumS hi (l ++ [x]) = sumS hi l + (if hi then x.2 else x.1)
  | [] => by simp [sumS]
  | y :: l => by simp only [List.cons_append, sumS, sumS_app hi x l]; omega

theorem badS_app (hi : Bool) (low : Int) (x : Int × Int) : ∀ l, badS hi low (l ++ [x]) = badS hi low l + (if (if hi then x.2 else x.1) < low then 1 else 0)
  | [] => by simp [badS]
  | y :: l => by simp only [List.cons_append, badS, badS_app hi low x l]; omega

theorem badS_0 (hi : Bool) (low : Int) : ∀ l, 0 ≤ badS hi low l
  | [] => by simp [badS]
  | y :: l => by
    have := badS_0 hi low l
    simp only [badS]
    split <;> split <;> omega

theorem badS_le (hi : Bool) (low : Int) : ∀ a b, badS hi low a ≤ badS hi low (a ++ b)
  | [], b => by simpa [badS] using badS_0 hi low b
  | y :: l, b => by
    have := badS_le hi low l b
    simp only [List.cons_append, badS]
    omega

theorem sumS_bd (hi : Bool) : ∀ l, (∀ x ∈ l, TrB x) → 0 ≤ sumS hi l ∧ sumS hi l ≤ 100000 * (l.length : Int)
  | [], _ => by simp [sumS]
  | y :: l, h => by
    obtain ⟨a, b⟩ := sumS_bd hi l (fun x hx => h x (List.mem_cons_of_mem _ hx))
    obtain ⟨p, q, r, s⟩ := h y List.mem_cons_self
    simp only [sumS, List.length_cons]
    split <;> omega

/-- Whether a lot passes. -/
def passB (hi : Bool) (te me low ba : Int) (l : List (Int × Int)) : Bool := decide (badS hi low l ≤ ba) && decide (te * me ≤ sumS hi l)

theorem wrap_add (a b : Int) : IntKind.i64.wrap (IntKind.i64.wrap a + b) = IntKind.i64.wrap (a + b) := by
  rw [IntKind.wrap_i64, IntKind.wrap_i64, IntKind.wrap_i64]
  omega

/-- While passes counts. -/
def InvP (hi : Bool) (low ba : Int) (b6 b7 b8 : Nat) (X0 : Nat → Prop) (w4 : World) (pre : List (Int × Int)) (X Y : Nat → Prop) (W : World) : Prop :=
  X = X0 ∧ (∀ i, Y i → w4.heap.size ≤ i) ∧ Kx X0 w4 W ∧ Own W b6 [.bool false] ∧ Own W b7 [.int .i64 (IntKind.i64.wrap (sumS hi pre))] ∧ Own W b8 [.int .i64 (badS hi low pre)] ∧ badS hi low pre ≤ ba

theorem InvP.ab {hi : Bool} {low ba : Int} {b6 b7 b8 : Nat} {X0 : Nat → Prop} {w4 : World} (h6' : b6 < w4.heap.size) (h7 : b7 < w4.heap.size) (h8 : b8 < w4.heap.size) (s : List (Int × Int)) (X : Nat → Prop) : Ab (InvP hi low ba b6 b7 b8 X0 w4 s X) := by
  rintro Y Y' A B ⟨h1, h2, h3, h0, h4, h5, h6⟩ hk hy
  have hs := h3.size
  refine ⟨h1, fun i e => ?_, h3.th hk fun i e => .inr (h2 i e), h0.kx hk fun e => ?_, h4.kx hk fun e => ?_, h5.kx hk fun e => ?_, h6⟩
  · rcases hy i e with e | e
    · exact h2 i e
    · omega
  · have := h2 _ e; omega
  · have := h2 _ e; omega
  · have := h2 _ e; omega

def FndP (hi : Bool) (low ba : Int) (b6 : Nat) (X0 : Nat → Prop) (w4 : World) (c : Code) (pre : List (Int × Int)) (Y : Nat → Prop) (W : World) : Prop :=
  c = .ret ∧ (∀ i, Y i → w4.heap.size ≤ i) ∧ Kx X0 w4 W ∧ Own W b6 [.bool false] ∧ ba < badS hi low pre

theorem end_lo (x : Int × Int) (w : World) : Calls Try.prog 111 #[.agg #[.int .i64 x.1, .int .i64 x.2]] w fun e w' => e = .returned (.int .i64 x.1) ∧ Gr w w' := by
  have hb := Box.new w [.int .i64 x.1, .int .i64 x.2] 45 w.heap.size rfl
  obtain ⟨q0, q1⟩ := hb.c2
  have gg := Gr.al w (.cells #[.int .i64 x.1, .int .i64 x.2] 45)
  go_enter Try.func111, Try.ntmps111
  go_wp2
  go_ret
  exact ⟨rfl, gg⟩

set_option maxRecDepth 100000 in
set_option maxHeartbeats 4000000 in
theorem passes_lo (te : Nat) (me low ba off : Int) (rl ml : List Int) (ra ma : Option Addr) (rc mc : Nat) (t1 : te ≤ 1000) (m0 : 0 ≤ me) (m1 : me ≤ 100000) (o0 : 0 ≤ off) (o1 : off ≤ 1000) (a0 : 0 ≤ ba) (a1 : ba ≤ 1000) (hB : ∀ r ∈ rl ++ ml, 0 ≤ r ∧ r ≤ 100000) (hl : (rl ++ ml).length ≤ 100000) (w : World) (hr : IRow w ra rl) (hrn : ra = none → rc = 0) (hm : IRow w ma ml) (hmn : ma = none → mc = 0) :
    Calls Try.prog 110 #[.agg #[.int .i64 (te : Int), .int .i64 me, .int .i64 low, .int .i64 ba, .int .i64 off, .slice ra rl.length rc], .func (.func 111) #[] #[], .slice ma ml.length mc] w fun e w' => e = .returned (.bool (passB false (te : Int) me low ba (truthsL te off (rl ++ ml)))) ∧ Gr w w' := by
  refine (callsIn_wide (n := 20)).1 ?_
  have gg := (Gr.al w (.cells #[.int .i64 (te : Int), .int .i64 me, .int .i64 low, .int .i64 ba, .int .i64 off, .slice ra rl.length rc] 147)).tr ((Gr.al _ (.cells #[.func (.func 111) #[] #[]] 188)).tr ((Gr.al _ (.cells #[.bool false] 4)).tr ((Gr.al _ (.cells #[.int .i64 0] 3)).tr (Gr.al _ (.cells #[.int .i64 0] 3)))))
  have o3 := (Own.new w [.int .i64 (te : Int), .int .i64 me, .int .i64 low, .int .i64 ba, .int .i64 off, .slice ra rl.length rc] 147 w.heap.size rfl).keep ((Gr.al _ (.cells #[.func (.func 111) #[] #[]] 188)).tr ((Gr.al _ (.cells #[.bool false] 4)).tr ((Gr.al _ (.cells #[.int .i64 0] 3)).tr (Gr.al _ (.cells #[.int .i64 0] 3)))))
  have o4 := (Own.new (w.alloc (.cells #[.int .i64 (te : Int), .int .i64 me, .int .i64 low, .int .i64 ba, .int .i64 off, .slice ra rl.length rc] 147)) [.func (.func 111) #[] #[]] 188 (w.heap.size + 1) (by simp)).keep ((Gr.al _ (.cells #[.bool false] 4)).tr ((Gr.al _ (.cells #[.int .i64 0] 3)).tr (Gr.al _ (.cells #[.int .i64 0] 3))))
  have o6 := (Own.new ((w.alloc (.cells #[.int .i64 (te : Int), .int .i64 me, .int .i64 low, .int .i64 ba, .int .i64 off, .slice ra rl.length rc] 147)).alloc (.cells #[.func (.func 111) #[] #[]] 188)) [.bool false] 4 (w.heap.size + 1 + 1) (by simp)).keep ((Gr.al _ (.cells #[.int .i64 0] 3)).tr (Gr.al _ (.cells #[.int .i64 0] 3)))
  have o7 := (Own.new (((w.alloc (.cells #[.int .i64 (te : Int), .int .i64 me, .int .i64 low, .int .i64 ba, .int .i64 off, .slice ra rl.length rc] 147)).alloc (.cells #[.func (.func 111) #[] #[]] 188)).alloc (.cells #[.bool false] 4)) [.int .i64 0] 3 (w.heap.size + 1 + 1 + 1) (by simp)).keep (Gr.al _ (.cells #[.int .i64 0] 3))
  have o8 := Own.new ((((w.alloc (.cells #[.int .i64 (te : Int), .int .i64 me, .int .i64 low, .int .i64 ba, .int .i64 off, .slice ra rl.length rc] 147)).alloc (.cells #[.func (.func 111) #[] #[]] 188)).alloc (.cells #[.bool false] 4)).alloc (.cells #[.int .i64 0] 3)) [.int .i64 0] 3 (w.heap.size + 1 + 1 + 1 + 1) (by simp)
  have q3 := fun j v h => o3.1.2 j v h
  refine callsIn_of_wp_marks Try.func110 rfl trivial ?_ rfl
  simp only [Try.ntmps110, List.size_toArray, List.length_cons, List.length_nil, Nat.reduceAdd, Nat.reduceSub, Array.replicate_succ, Array.replicate_zero, List.push_toArray, List.append_toArray, List.nil_append, List.cons_append]
  gi_wp2_with (refine ⟨trivial, ?_⟩; gi_at_call 141; refine (callsIn_wide.2 (truths_any (te : Int) me low ba off rl ml ra ma rc mc hl _ (hr.grow gg) hrn (hm.grow gg) hmn)).mono ?_; rintro e w4 ⟨b1, b2, a, cap, rfl, hb1, hb2, h1, h2, h3, h5, h4⟩; have H1 := Lib.hid h1; have H2 := Lib.hid h2; have H3 := Lib.hid h3; have H5 := Lib.hid h5; have O3 := Lib.hid (o3.keep h4); have O4 := Lib.hid (o4.keep h4); have O6 := Lib.hid (o6.keep h4); have O7 := Lib.hid (o7.keep h4); have O8 := Lib.hid (o8.keep h4); have G4 := Lib.hid (gg.tr h4); clear h1 h2 h3 h5 h4)
  have hb1' : w.heap.size + 5 ≤ b1 := by simpa using hb1
  have hb2' : w.heap.size + 5 ≤ b2 := by simpa using hb2
  have s4 : w.heap.size + 5 ≤ w4.heap.size := by have := O8.out.1.1; omega
  have HN5 := Lib.hid (H5.out.le (show w.heap.size + 5 ≤ _ by simp))
  clear hb1 hb2 gg o3 o4 o6 o7 o8 q3 H5
  obtain ⟨X0, hX0⟩ : ∃ X0 : Nat → Prop, X0 = fun i => i = w.heap.size + 1 + 1 ∨ i = w.heap.size + 1 + 1 + 1 ∨ i = w.heap.size + 1 + 1 + 1 + 1 := ⟨_, rfl⟩
  have x0 : ∀ i, X0 i → i < w.heap.size + 5 ∧ w.heap.size + 2 ≤ i := fun i e => by rw [hX0] at e; rcases e with e | e | e <;> omega
  have x6 : X0 (w.heap.size + 1 + 1) := by rw [hX0]; exact .inl rfl
  have x7 : X0 (w.heap.size + 1 + 1 + 1) := by rw [hX0]; exact .inr (.inl rfl)
  have x8 : X0 (w.heap.size + 1 + 1 + 1 + 1) := by rw [hX0]; exact .inr (.inr rfl)
  have hst : St X0 (fun V => Own V b1 [.int .i64 (te : Int), .int .i64 me, .int .i64 low, .int .i64 ba, .int .i64 off, .slice ra rl.length rc] ∧ Own V b2 [.slice a (rl ++ ml).length cap] ∧ IRow V a (rl ++ ml)) w4 := fun B hB => by
    refine ⟨H1.out.kx hB fun e => by have := x0 _ e; omega, H2.out.kx hB fun e => by have := x0 _ e; omega, H3.out.kx hB fun b' off' e e' => ?_⟩
    have := x0 _ e'
    have := HN5.out b' off' none e
    omega
  have Hx0 := Lib.hid x0
  have Hst := Lib.hid hst
  have HB := Lib.hid hB
  clear hX0 x0 hst hB
  refine wpIn_rangeX (F := Fence.wide) rfl (by omega) (gf := 155) (lb := #[.pointer (some ⟨b1, 0, none⟩), .pointer (some ⟨b2, 0, none⟩)]) rfl trivial (enters_of Try.func155 (by kernel_rfl) rfl)
    (truths_seq 19 (by omega) b1 b2 te me low ba off (.slice ra rl.length rc) a cap (rl ++ ml) (by omega) o0 o1 HB.out X0 w4 Hst.out) (Kx.refl _ _) (fun _ => rfl) X0 (fun i e => ⟨by have := Hx0.out i e; omega, .inl e⟩)
    (InvP false low ba (w.heap.size + 1 + 1) (w.heap.size + 1 + 1 + 1) (w.heap.size + 1 + 1 + 1 + 1) X0 w4) (FndP false low ba (w.heap.size + 1 + 1) X0 w4) (fun s X => InvP.ab (by omega) (by omega) (by omega) s X) ?abX ?start
    (fun pre x a' X Y W => InvP false low ba (w.heap.size + 1 + 1) (w.heap.size + 1 + 1 + 1) (w.heap.size + 1 + 1 + 1 + 1) X0 w4 pre X Y W ∧ TrB x ∧ ∃ B9, Own W B9 [.int .i64 x.1, .int .i64 x.2] ∧ ¬ X B9 ∧ ¬ Y B9 ∧ w4.heap.size ≤ B9 ∧ a' = ⟨#[.agg #[.int .i64 (te : Int), .int .i64 me, .int .i64 low, .int .i64 ba, .int .i64 off, .slice ra rl.length rc], .func (.func 111) #[] #[], .slice ma ml.length mc, .pointer (some ⟨w.heap.size, 0, none⟩), .pointer (some ⟨w.heap.size + 1, 0, none⟩), undef, .pointer (some ⟨w.heap.size + 1 + 1, 0, none⟩), .pointer (some ⟨w.heap.size + 1 + 1 + 1, 0, none⟩), .pointer (some ⟨w.heap.size + 1 + 1 + 1 + 1, 0, none⟩), .pointer (some ⟨B9, 0, none⟩), undef, .agg #[.int .i64 (te : Int), .int .i64 me, .int .i64 low, .int .i64 ba, .int .i64 off, .slice ra rl.length rc], .slice ma ml.length mc, .func (.func 155) #[] #[.pointer (some ⟨b1, 0, none⟩), .pointer (some ⟨b2, 0, none⟩)], .agg #[.int .i64 x.1, .int .i64 x.2], undef, undef, undef, undef, undef, undef, undef, undef, undef, undef, undef, undef, undef, undef, undef, undef, undef, undef, undef, undef, undef, undef, undef, undef, undef, undef, undef], []⟩)
    ?abA ?assign ?body ?done ?stop
  case start =>
    refine ⟨rfl, fun i e => e.elim, Kx.refl _ _, O6.out, O7.out, O8.out, ?_⟩
    simpa [badS] using a0
  case abX =>
    rintro c s Y Y' A B ⟨h1, h2, h3, h4, h5⟩ hk hy
    have hs := h3.size
    refine ⟨h1, fun i e => ?_, h3.th hk fun i e => .inr (h2 i e), h4.kx hk fun e => ?_, h5⟩
    · rcases hy i e with e | e
      · exact h2 i e
      · omega
    · have := h2 _ e; omega
  case abA =>
    rintro s x a' X Y Y' A B ⟨h1, hm, B9, h3, h4, h5, h6, h7⟩ hk hy
    refine ⟨InvP.ab (by omega) (by omega) (by omega) _ _ _ _ _ _ h1 hk hy, hm, B9, h3.kx hk h5, h4, fun e => ?_, h6, h7⟩
    rcases hy _ e with e | e
    · exact h5 e
    · have := h3.1.1; omega
  case assign =>
    rintro l1 pre x X Y W K hI hG hD hK
    have HK := Lib.hid hK
    have false := Lib.hid hI
    have HG := Lib.hid hG
    clear hK hI hG
    dsimp only [encTr]
    gi_wp2
    refine HK.out _ X _ ⟨InvP.ab (by omega) (by omega) (by omega) _ _ _ _ _ _ false.out (Kx.al _ _ _) (fun i e => .inl e), HG.out, W.heap.size, Own.new _ [_, _] 45 _ rfl, fun e => ?_, fun e => ?_, false.out.2.2.1.size, rfl⟩ (Kx.al _ _ _) (fun i e => ⟨?_, .inl e⟩)
    · have := hD.x _ e; omega
    · have := hD.y _ e; omega
    · have := hD.x _ e; simp; omega
  case body =>
    rintro l1 pre x a' X Y W ⟨⟨rfl, hY, hk, h6, h7, h8, hba⟩, hT, B9, h9, hn1, hn2, hn3, rfl⟩ hD hYl hrec
    obtain ⟨T1, T2, T3, T4⟩ := hT
    have f3 := O3.out.kx hk (fun e => by have := Hx0.out _ e; omega)
    have f4 := O4.out.kx hk (fun e => by have := Hx0.out _ e; omega)
    have q4 := f4.1.c1
    obtain ⟨j0, j1⟩ := h9.1.c2
    have hsum : sumS false (pre ++ [x]) = sumS false pre + x.1 := by simp [sumS_app]
    have v0 : IntKind.i64.wrap (IntKind.i64.wrap (sumS false pre) + x.1) = IntKind.i64.wrap (sumS false (pre ++ [x])) := by rw [hsum, wrap_add]
    have hbad : badS false low (pre ++ [x]) = badS false low pre + (if x.1 < low then 1 else 0) := by simp [badS_app]
    have hb0 := badS_0 false low pre
    obtain ⟨Bd, hBd⟩ : ∃ Bd, badS false low pre = Bd := ⟨_, rfl⟩
    rw [hBd] at h8 hba hbad hb0
    have v1 : IntKind.i64.wrap (Bd + 1) = Bd + 1 := IntWalk.i64_in _ (by omega)
    have n1 : ¬ w.heap.size = w.heap.size + 1 + 1 + 1 := by omega
    have n2 : ¬ w.heap.size = w.heap.size + 1 + 1 + 1 + 1 := by omega
    have n3 : ¬ w.heap.size + 1 + 1 + 1 + 1 = w.heap.size + 1 + 1 + 1 := by omega
    have n4 : ¬ w.heap.size + 1 + 1 + 1 = w.heap.size + 1 + 1 + 1 + 1 := by omega
    have n5 : ¬ w.heap.size + 1 + 1 = w.heap.size + 1 + 1 + 1 := by omega
    have n6 : ¬ w.heap.size + 1 + 1 = w.heap.size + 1 + 1 + 1 + 1 := by omega
    have n7 : ¬ w.heap.size + 1 + 1 + 1 = w.heap.size + 1 + 1 := by omega
    have n8 : ¬ w.heap.size + 1 + 1 + 1 + 1 = w.heap.size + 1 + 1 := by omega
    obtain ⟨S', hS'⟩ : ∃ S', IntKind.i64.wrap (sumS false (pre ++ [x])) = S' := ⟨_, rfl⟩
    rw [hS'] at v0
    obtain ⟨Pv, hPv⟩ : ∃ Pv, IntKind.i64.wrap (sumS false pre) = Pv := ⟨_, rfl⟩
    rw [hPv] at v0 h7
    clear hPv
    have d1 : decide (ba < Bd) = false := by simp; omega
    have H6 := Lib.hid h6
    have H7 := Lib.hid h7
    have H8 := Lib.hid h8
    have HF := Lib.hid f3
    have HK := Lib.hid hk
    have HY := Lib.hid hY
    have HBD := Lib.hid hbad
    have HSS := Lib.hid hS'
    have X6 := Lib.hid x6
    have X7 := Lib.hid x7
    have X8 := Lib.hid x8
    have HBa := Lib.hid hba
    clear h6 h7 h8 f3 f4 hk hY hbad hS' hsum h9 hn1 hn2 hD hYl hrec hBd T1 T2 T3 T4 x6 x7 x8 hba
    cases hb : decide (x.1 < low) with
    | false =>
      have hb' : ¬ x.1 < low := by simpa using hb
      have eB := HBD.out
      rw [if_neg hb'] at eB
      have EB := Lib.hid eB
      clear eB hb'
      gi_wp2_with (refine ⟨trivial, ?_⟩; gi_at_call 111; refine (CallsIn.inRound l1 (callsIn_wide.2 (end_lo x _))).mono ?_; rintro e w6 ⟨rfl, g6⟩; have D6 := Lib.hid (H6.out.keep g6); have D7 := Lib.hid (H7.out.keep g6); have D8 := Lib.hid (H8.out.keep g6); have e32 := (HF.out.keep g6).1.2 2 _ rfl; have e33 := (HF.out.keep g6).1.2 3 _ rfl; have c7 := D7.out.1.c1; have z7 := D7.out.2 0; have c8 := D8.out.1.c1; have z8 := D8.out.2 0; have c6 := D6.out.1.c1; have z6 := D6.out.2 0; have G6 := Lib.hid g6; clear g6)
      have kk : Kx X W (w6.setCell ⟨w.heap.size + 1 + 1 + 1, 0, none⟩ (.int .i64 S')) := (Kx.gr G6.out).tr (Kx.set (Z := X) (p := ⟨w.heap.size + 1 + 1 + 1, 0, none⟩) X7.out _)
      refine ⟨kk, X, ⟨rfl, HY.out, HK.out.tr kk, D6.out.other n5, ?_, ?_, ?_⟩, fun i e => ⟨by have := Hx0.out i e; have := HK.out.size; have := kk.size; omega, .inl e⟩⟩
      · rw [HSS.out]
        exact D7.out.set (i := 0) (v := .int .i64 S') (by simp)
      · rw [EB.out, Int.add_zero]
        exact D8.out.other n3
      · rw [EB.out, Int.add_zero]
        exact HBa.out
    | true =>
      have hb' : x.1 < low := by simpa using hb
      have eB := HBD.out
      rw [if_pos hb'] at eB
      have EB := Lib.hid eB
      clear eB hb'
      cases hc : decide (ba < Bd + 1) with
      | false =>
        gi_wp2_with (refine ⟨trivial, ?_⟩; gi_at_call 111; refine (CallsIn.inRound l1 (callsIn_wide.2 (end_lo x _))).mono ?_; rintro e w6 ⟨rfl, g6⟩; have D6 := Lib.hid (H6.out.keep g6); have D7 := Lib.hid (H7.out.keep g6); have D8 := Lib.hid (H8.out.keep g6); have e32 := (HF.out.keep g6).1.2 2 _ rfl; have e33 := (HF.out.keep g6).1.2 3 _ rfl; have c7 := D7.out.1.c1; have z7 := D7.out.2 0; have c8 := D8.out.1.c1; have z8 := D8.out.2 0; have c6 := D6.out.1.c1; have z6 := D6.out.2 0; have G6 := Lib.hid g6; clear g6)
        have kk : Kx X W ((w6.setCell ⟨w.heap.size + 1 + 1 + 1, 0, none⟩ (.int .i64 S')).setCell ⟨w.heap.size + 1 + 1 + 1 + 1, 0, none⟩ (.int .i64 (Bd + 1))) := (Kx.gr G6.out).tr ((Kx.set (Z := X) (p := ⟨w.heap.size + 1 + 1 + 1, 0, none⟩) X7.out _).tr (Kx.set (Z := X) (p := ⟨w.heap.size + 1 + 1 + 1 + 1, 0, none⟩) X8.out _))
        refine ⟨kk, X, ⟨rfl, HY.out, HK.out.tr kk, (D6.out.other n5).other n6, ?_, ?_, ?_⟩, fun i e => ⟨by have := Hx0.out i e; have := HK.out.size; have := kk.size; omega, .inl e⟩⟩
        · rw [HSS.out]
          exact (D7.out.set (i := 0) (v := .int .i64 S') (by simp)).other n4
        · rw [EB.out]
          exact (D8.out.other n3).set (i := 0) (v := .int .i64 (Bd + 1)) (by simp)
        · rw [EB.out]
          simp only [decide_eq_false_iff_not] at hc
          omega
      | true =>
        gi_wp2_with (refine ⟨trivial, ?_⟩; gi_at_call 111; refine (CallsIn.inRound l1 (callsIn_wide.2 (end_lo x _))).mono ?_; rintro e w6 ⟨rfl, g6⟩; have D6 := Lib.hid (H6.out.keep g6); have D7 := Lib.hid (H7.out.keep g6); have D8 := Lib.hid (H8.out.keep g6); have e32 := (HF.out.keep g6).1.2 2 _ rfl; have e33 := (HF.out.keep g6).1.2 3 _ rfl; have c7 := D7.out.1.c1; have z7 := D7.out.2 0; have c8 := D8.out.1.c1; have z8 := D8.out.2 0; have c6 := D6.out.1.c1; have z6 := D6.out.2 0; have G6 := Lib.hid g6; clear g6)
        have kk : Kx X W (((w6.setCell ⟨w.heap.size + 1 + 1 + 1, 0, none⟩ (.int .i64 S')).setCell ⟨w.heap.size + 1 + 1 + 1 + 1, 0, none⟩ (.int .i64 (Bd + 1))).setCell ⟨w.heap.size + 1 + 1, 0, none⟩ (.bool false)) := (Kx.gr G6.out).tr ((Kx.set (Z := X) (p := ⟨w.heap.size + 1 + 1 + 1, 0, none⟩) X7.out _).tr ((Kx.set (Z := X) (p := ⟨w.heap.size + 1 + 1 + 1 + 1, 0, none⟩) X8.out _).tr (Kx.set (Z := X) (p := ⟨w.heap.size + 1 + 1, 0, none⟩) X6.out _)))
        refine ⟨kk, rfl, HY.out, HK.out.tr kk, ((D6.out.other n5).other n6).set (i := 0) (v := .bool false) (by simp), ?_⟩
        rw [EB.out]
        simpa using hc
  case done =>
    rintro D xs X Y W hD rfl ⟨rfl, hY, hk, h6, h7, h8, hba⟩ hYD hK
    have f3 := O3.out.kx hk (fun e => by have := Hx0.out _ e; omega)
    have hall : ∀ x ∈ truthsL te off (rl ++ ml), TrB x := fun x hx => by
      obtain ⟨k, _, rfl⟩ := List.mem_map.1 hx
      exact truthAt_bd o0 o1 HB.out k
    obtain ⟨s0, s1⟩ := sumS_bd false _ hall
    have hlen : ((truthsL te off (rl ++ ml)).length : Int) ≤ 1000 := by simp [truthsL]; omega
    obtain ⟨S, hS⟩ : ∃ S, sumS false (truthsL te off (rl ++ ml)) = S := ⟨_, rfl⟩
    rw [hS] at h7 s0 s1
    rw [IntWalk.i64_in S (by omega)] at h7
    have hm0 : 0 ≤ (te : Int) * me := Int.mul_nonneg (by omega) m0
    have hm1 : (te : Int) * me ≤ 1000 * 100000 := Int.mul_le_mul (by omega) m1 m0 (by omega)
    have v0 : IntKind.i64.wrap ((te : Int) * me) = (te : Int) * me := IntWalk.i64_in _ (by omega)
    have e30 := f3.1.2 0 _ rfl
    have e31 := f3.1.2 1 _ rfl
    have c7 := h7.1.c1
    have c6 := h6.1.c1
    have z6 := h6.2 0
    have D6 := Lib.hid h6
    have HKK := Lib.hid hk
    have HS := Lib.hid hS
    have HBa := Lib.hid hba
    have X6 := Lib.hid x6
    clear h6 h7 h8 f3 hk hall hY x6 x7 x8 hba hS s0 s1 hm0 hm1
    gi_wp2
    have oz := D6.out.set (i := 0) (v := .bool (decide ((te : Int) * me ≤ S))) (by simp)
    have kk := HKK.out.tr (Kx.set (Z := X) (w := W) (p := ⟨w.heap.size + 1 + 1, 0, none⟩) X6.out (.bool (decide ((te : Int) * me ≤ S))))
    refine leaves_marks [D] _ (fun E hE => ?_) (by simp) fun w' hk' => ?_
    · simp only [List.mem_singleton] at hE
      subst hE
      exact (Below.heap_setCell _ _ _ _ (by dsimp only; omega)).trans hK
    · have p0 := (oz.kx hk' (fun e => by simp only [List.mem_singleton] at e; omega)).1.c1
      refine ⟨.bool (decide ((te : Int) * me ≤ S)), by simp [results, Try.results110, go_sem, p0], ?_, Kx.toGr (((Kx.gr (Z := noBlock) G4.out).th kk fun i e => ?_).th hk' fun i e => ?_)⟩
      · have e1 : decide (badS false low (truthsL te off (rl ++ ml)) ≤ ba) = true := by simpa using HBa.out
        unfold passB
        rw [e1, HS.out, Bool.true_and]
      · have := Hx0.out i e
        exact .inr (by omega)
      · simp only [List.mem_singleton] at e
        exact .inr (by omega)
  case stop =>
    rintro D c pre Y W hD ⟨m, hm, hpm⟩ ⟨rfl, hY, hk, h6, hbad⟩ hYD hK
    gi_wp2
    refine leaves_marks [D] _ (fun E hE => ?_) (by simp) fun w' hk' => ?_
    · simp only [List.mem_singleton] at hE
      subst hE
      exact hK
    · have p0 := (h6.kx hk' (fun e => by simp only [List.mem_singleton] at e; omega)).1.c1
      refine ⟨.bool false, by simp [results, Try.results110, go_sem, p0], ?_, Kx.toGr (((Kx.gr (Z := noBlock) G4.out).th hk fun i e => ?_).th hk' fun i e => ?_)⟩
      · have h1 := badS_le false low pre ((truthsL te off (rl ++ ml)).drop m)
        rw [hpm, List.take_append_drop, ← hpm] at h1
        have e1 : decide (badS false low (truthsL te off (rl ++ ml)) ≤ ba) = false := by simp; omega
        unfold passB
        rw [e1, Bool.false_and]
      · have := Hx0.out i e
        exact .inr (by omega)
      · simp only [List.mem_singleton] at e
        exact .inr (by omega)

theorem end_hi (x : Int × Int) (w : World) : Calls Try.prog 112 #[.agg #[.int .i64 x.1, .int .i64 x.2]] w fun e w' => e = .returned (.int .i64 x.2) ∧ Gr w w' := by
  have hb := Box.new w [.int .i64 x.1, .int .i64 x.2] 45 w.heap.size rfl
  obtain ⟨q0, q1⟩ := hb.c2
  have gg := Gr.al w (.cells #[.int .i64 x.1, .int .i64 x.2] 45)
  go_enter Try.func112, Try.ntmps112
  go_wp2
  go_ret
  exact ⟨rfl, gg⟩

set_option maxRecDepth 100000 in
set_option maxHeartbeats 4000000 in
theorem passes_hi (te : Nat) (me low ba off : Int) (rl ml : List Int) (ra ma : Option Addr) (rc mc : Nat) (t1 : te ≤ 1000) (m0 : 0 ≤ me) (m1 : me ≤ 100000) (o0 : 0 ≤ off) (o1 : off ≤ 1000) (a0 : 0 ≤ ba) (a1 : ba ≤ 1000) (hB : ∀ r ∈ rl ++ ml, 0 ≤ r ∧ r ≤ 100000) (hl : (rl ++ ml).length ≤ 100000) (w : World) (hr : IRow w ra rl) (hrn : ra = none → rc = 0) (hm : IRow w ma ml) (hmn : ma = none → mc = 0) :
    Calls Try.prog 110 #[.agg #[.int .i64 (te : Int), .int .i64 me, .int .i64 low, .int .i64 ba, .int .i64 off, .slice ra rl.length rc], .func (.func 112) #[] #[], .slice ma ml.length mc] w fun e w' => e = .returned (.bool (passB true (te : Int) me low ba (truthsL te off (rl ++ ml)))) ∧ Gr w w' := by
  refine (callsIn_wide (n := 20)).1 ?_
  have gg := (Gr.al w (.cells #[.int .i64 (te : Int), .int .i64 me, .int .i64 low, .int .i64 ba, .int .i64 off, .slice ra rl.length rc] 147)).tr ((Gr.al _ (.cells #[.func (.func 112) #[] #[]] 188)).tr ((Gr.al _ (.cells #[.bool false] 4)).tr ((Gr.al _ (.cells #[.int .i64 0] 3)).tr (Gr.al _ (.cells #[.int .i64 0] 3)))))
  have o3 := (Own.new w [.int .i64 (te : Int), .int .i64 me, .int .i64 low, .int .i64 ba, .int .i64 off, .slice ra rl.length rc] 147 w.heap.size rfl).keep ((Gr.al _ (.cells #[.func (.func 112) #[] #[]] 188)).tr ((Gr.al _ (.cells #[.bool false] 4)).tr ((Gr.al _ (.cells #[.int .i64 0] 3)).tr (Gr.al _ (.cells #[.int .i64 0] 3)))))
  have o4 := (Own.new (w.alloc (.cells #[.int .i64 (te : Int), .int .i64 me, .int .i64 low, .int .i64 ba, .int .i64 off, .slice ra rl.length rc] 147)) [.func (.func 112) #[] #[]] 188 (w.heap.size + 1) (by simp)).keep ((Gr.al _ (.cells #[.bool false] 4)).tr ((Gr.al _ (.cells #[.int .i64 0] 3)).tr (Gr.al _ (.cells #[.int .i64 0] 3))))
  have o6 := (Own.new ((w.alloc (.cells #[.int .i64 (te : Int), .int .i64 me, .int .i64 low, .int .i64 ba, .int .i64 off, .slice ra rl.length rc] 147)).alloc (.cells #[.func (.func 112) #[] #[]] 188)) [.bool false] 4 (w.heap.size + 1 + 1) (by simp)).keep ((Gr.al _ (.cells #[.int .i64 0] 3)).tr (Gr.al _ (.cells #[.int .i64 0] 3)))
  have o7 := (Own.new (((w.alloc (.cells #[.int .i64 (te : Int), .int .i64 me, .int .i64 low, .int .i64 ba, .int .i64 off, .slice ra rl.length rc] 147)).alloc (.cells #[.func (.func 112) #[] #[]] 188)).alloc (.cells #[.bool false] 4)) [.int .i64 0] 3 (w.heap.size + 1 + 1 + 1) (by simp)).keep (Gr.al _ (.cells #[.int .i64 0] 3))
  have o8 := Own.new ((((w.alloc (.cells #[.int .i64 (te : Int), .int .i64 me, .int .i64 low, .int .i64 ba, .int .i64 off, .slice ra rl.length rc] 147)).alloc (.cells #[.func (.func 112) #[] #[]] 188)).alloc (.cells #[.bool false] 4)).alloc (.cells #[.int .i64 0] 3)) [.int .i64 0] 3 (w.heap.size + 1 + 1 + 1 + 1) (by simp)
  have q3 := fun j v h => o3.1.2 j v h
  refine callsIn_of_wp_marks Try.func110 rfl trivial ?_ rfl
  simp only [Try.ntmps110, List.size_toArray, List.length_cons, List.length_nil, Nat.reduceAdd, Nat.reduceSub, Array.replicate_succ, Array.replicate_zero, List.push_toArray, List.append_toArray, List.nil_append, List.cons_append]
  gi_wp2_with (refine ⟨trivial, ?_⟩; gi_at_call 141; refine (callsIn_wide.2 (truths_any (te : Int) me low ba off rl ml ra ma rc mc hl _ (hr.grow gg) hrn (hm.grow gg) hmn)).mono ?_; rintro e w4 ⟨b1, b2, a, cap, rfl, hb1, hb2, h1, h2, h3, h5, h4⟩; have H1 := Lib.hid h1; have H2 := Lib.hid h2; have H3 := Lib.hid h3; have H5 := Lib.hid h5; have O3 := Lib.hid (o3.keep h4); have O4 := Lib.hid (o4.keep h4); have O6 := Lib.hid (o6.keep h4); have O7 := Lib.hid (o7.keep h4); have O8 := Lib.hid (o8.keep h4); have G4 := Lib.hid (gg.tr h4); clear h1 h2 h3 h5 h4)
  have hb1' : w.heap.size + 5 ≤ b1 := by simpa using hb1
  have hb2' : w.heap.size + 5 ≤ b2 := by simpa using hb2
  have s4 : w.heap.size + 5 ≤ w4.heap.size := by have := O8.out.1.1; omega
  have HN5 := Lib.hid (H5.out.le (show w.heap.size + 5 ≤ _ by simp))
  clear hb1 hb2 gg o3 o4 o6 o7 o8 q3 H5
  obtain ⟨X0, hX0⟩ : ∃ X0 : Nat → Prop, X0 = fun i => i = w.heap.size + 1 + 1 ∨ i = w.heap.size + 1 + 1 + 1 ∨ i = w.heap.size + 1 + 1 + 1 + 1 := ⟨_, rfl⟩
  have x0 : ∀ i, X0 i → i < w.heap.size + 5 ∧ w.heap.size + 2 ≤ i := fun i e => by rw [hX0] at e; rcases e with e | e | e <;> omega
  have x6 : X0 (w.heap.size + 1 + 1) := by rw [hX0]; exact .inl rfl
  have x7 : X0 (w.heap.size + 1 + 1 + 1) := by rw [hX0]; exact .inr (.inl rfl)
  have x8 : X0 (w.heap.size + 1 + 1 + 1 + 1) := by rw [hX0]; exact .inr (.inr rfl)
  have hst : St X0 (fun V => Own V b1 [.int .i64 (te : Int), .int .i64 me, .int .i64 low, .int .i64 ba, .int .i64 off, .slice ra rl.length rc] ∧ Own V b2 [.slice a (rl ++ ml).length cap] ∧ IRow V a (rl ++ ml)) w4 := fun B hB => by
    refine ⟨H1.out.kx hB fun e => by have := x0 _ e; omega, H2.out.kx hB fun e => by have := x0 _ e; omega, H3.out.kx hB fun b' off' e e' => ?_⟩
    have := x0 _ e'
    have := HN5.out b' off' none e
    omega
  have Hx0 := Lib.hid x0
  have Hst := Lib.hid hst
  have HB := Lib.hid hB
  clear hX0 x0 hst hB
  refine wpIn_rangeX (F := Fence.wide) rfl (by omega) (gf := 155) (lb := #[.pointer (some ⟨b1, 0, none⟩), .pointer (some ⟨b2, 0, none⟩)]) rfl trivial (enters_of Try.func155 (by kernel_rfl) rfl)
    (truths_seq 19 (by omega) b1 b2 te me low ba off (.slice ra rl.length rc) a cap (rl ++ ml) (by omega) o0 o1 HB.out X0 w4 Hst.out) (Kx.refl _ _) (fun _ => rfl) X0 (fun i e => ⟨by have := Hx0.out i e; omega, .inl e⟩)
    (InvP true low ba (w.heap.size + 1 + 1) (w.heap.size + 1 + 1 + 1) (w.heap.size + 1 + 1 + 1 + 1) X0 w4) (FndP true low ba (w.heap.size + 1 + 1) X0 w4) (fun s X => InvP.ab (by omega) (by omega) (by omega) s X) ?abX ?start
    (fun pre x a' X Y W => InvP true low ba (w.heap.size + 1 + 1) (w.heap.size + 1 + 1 + 1) (w.heap.size + 1 + 1 + 1 + 1) X0 w4 pre X Y W ∧ TrB x ∧ ∃ B9, Own W B9 [.int .i64 x.1, .int .i64 x.2] ∧ ¬ X B9 ∧ ¬ Y B9 ∧ w4.heap.size ≤ B9 ∧ a' = ⟨#[.agg #[.int .i64 (te : Int), .int .i64 me, .int .i64 low, .int .i64 ba, .int .i64 off, .slice ra rl.length rc], .func (.func 112) #[] #[], .slice ma ml.length mc, .pointer (some ⟨w.heap.size, 0, none⟩), .pointer (some ⟨w.heap.size + 1, 0, none⟩), undef, .pointer (some ⟨w.heap.size + 1 + 1, 0, none⟩), .pointer (some ⟨w.heap.size + 1 + 1 + 1, 0, none⟩), .pointer (some ⟨w.heap.size + 1 + 1 + 1 + 1, 0, none⟩), .pointer (some ⟨B9, 0, none⟩), undef, .agg #[.int .i64 (te : Int), .int .i64 me, .int .i64 low, .int .i64 ba, .int .i64 off, .slice ra rl.length rc], .slice ma ml.length mc, .func (.func 155) #[] #[.pointer (some ⟨b1, 0, none⟩), .pointer (some ⟨b2, 0, none⟩)], .agg #[.int .i64 x.1, .int .i64 x.2], undef, undef, undef, undef, undef, undef, undef, undef, undef, undef, undef, undef, undef, undef, undef, undef, undef, undef, undef, undef, undef, undef, undef, undef, undef, undef, undef], []⟩)
    ?abA ?assign ?body ?done ?stop
  case start =>
    refine ⟨rfl, fun i e => e.elim, Kx.refl _ _, O6.out, O7.out, O8.out, ?_⟩
    simpa [badS] using a0
  case abX =>
    rintro c s Y Y' A B ⟨h1, h2, h3, h4, h5⟩ hk hy
    have hs := h3.size
    refine ⟨h1, fun i e => ?_, h3.th hk fun i e => .inr (h2 i e), h4.kx hk fun e => ?_, h5⟩
    · rcases hy i e with e | e
      · exact h2 i e
      · omega
    · have := h2 _ e; omega
  case abA =>
    rintro s x a' X Y Y' A B ⟨h1, hm, B9, h3, h4, h5, h6, h7⟩ hk hy
    refine ⟨InvP.ab (by omega) (by omega) (by omega) _ _ _ _ _ _ h1 hk hy, hm, B9, h3.kx hk h5, h4, fun e => ?_, h6, h7⟩
    rcases hy _ e with e | e
    · exact h5 e
    · have := h3.1.1; omega
  case assign =>
    rintro l1 pre x X Y W K hI hG hD hK
    have HK := Lib.hid hK
    have true := Lib.hid hI
    have HG := Lib.hid hG
    clear hK hI hG
    dsimp only [encTr]
    gi_wp2
    refine HK.out _ X _ ⟨InvP.ab (by omega) (by omega) (by omega) _ _ _ _ _ _ true.out (Kx.al _ _ _) (fun i e => .inl e), HG.out, W.heap.size, Own.new _ [_, _] 45 _ rfl, fun e => ?_, fun e => ?_, true.out.2.2.1.size, rfl⟩ (Kx.al _ _ _) (fun i e => ⟨?_, .inl e⟩)
    · have := hD.x _ e; omega
    · have := hD.y _ e; omega
    · have := hD.x _ e; simp; omega
  case body =>
    rintro l1 pre x a' X Y W ⟨⟨rfl, hY, hk, h6, h7, h8, hba⟩, hT, B9, h9, hn1, hn2, hn3, rfl⟩ hD hYl hrec
    obtain ⟨T1, T2, T3, T4⟩ := hT
    have f3 := O3.out.kx hk (fun e => by have := Hx0.out _ e; omega)
    have f4 := O4.out.kx hk (fun e => by have := Hx0.out _ e; omega)
    have q4 := f4.1.c1
    obtain ⟨j0, j1⟩ := h9.1.c2
    have hsum : sumS true (pre ++ [x]) = sumS true pre + x.2 := by simp [sumS_app]
    have v0 : IntKind.i64.wrap (IntKind.i64.wrap (sumS true pre) + x.2) = IntKind.i64.wrap (sumS true (pre ++ [x])) := by rw [hsum, wrap_add]
    have hbad : badS true low (pre ++ [x]) = badS true low pre + (if x.2 < low then 1 else 0) := by simp [badS_app]
    have hb0 := badS_0 true low pre
    obtain ⟨Bd, hBd⟩ : ∃ Bd, badS true low pre = Bd := ⟨_, rfl⟩
    rw [hBd] at h8 hba hbad hb0
    have v1 : IntKind.i64.wrap (Bd + 1) = Bd + 1 := IntWalk.i64_in _ (by omega)
    have n1 : ¬ w.heap.size = w.heap.size + 1 + 1 + 1 := by omega
    have n2 : ¬ w.heap.size = w.heap.size + 1 + 1 + 1 + 1 := by omega
    have n3 : ¬ w.heap.size + 1 + 1 + 1 + 1 = w.heap.size + 1 + 1 + 1 := by omega
    have n4 : ¬ w.heap.size + 1 + 1 + 1 = w.heap.size + 1 + 1 + 1 + 1 := by omega
    have n5 : ¬ w.heap.size + 1 + 1 = w.heap.size + 1 + 1 + 1 := by omega
    have n6 : ¬ w.heap.size + 1 + 1 = w.heap.size + 1 + 1 + 1 + 1 := by omega
    have n7 : ¬ w.heap.size + 1 + 1 + 1 = w.heap.size + 1 + 1 := by omega
    have n8 : ¬ w.heap.size + 1 + 1 + 1 + 1 = w.heap.size + 1 + 1 := by omega
    obtain ⟨S', hS'⟩ : ∃ S', IntKind.i64.wrap (sumS true (pre ++ [x])) = S' := ⟨_, rfl⟩
    rw [hS'] at v0
    obtain ⟨Pv, hPv⟩ : ∃ Pv, IntKind.i64.wrap (sumS true pre) = Pv := ⟨_, rfl⟩
    rw [hPv] at v0 h7
    clear hPv
    have d1 : decide (ba < Bd) = false := by simp; omega
    have H6 := Lib.hid h6
    have H7 := Lib.hid h7
    have H8 := Lib.hid h8
    have HF := Lib.hid f3
    have HK := Lib.hid hk
    have HY := Lib.hid hY
    have HBD := Lib.hid hbad
    have HSS := Lib.hid hS'
    have X6 := Lib.hid x6
    have X7 := Lib.hid x7
    have X8 := Lib.hid x8
    have HBa := Lib.hid hba
    clear h6 h7 h8 f3 f4 hk hY hbad hS' hsum h9 hn1 hn2 hD hYl hrec hBd T1 T2 T3 T4 x6 x7 x8 hba
    cases hb : decide (x.2 < low) with
    | false =>
      have hb' : ¬ x.2 < low := by simpa using hb
      have eB := HBD.out
      rw [if_neg hb'] at eB
      have EB := Lib.hid eB
      clear eB hb'
      gi_wp2_with (refine ⟨trivial, ?_⟩; gi_at_call 112; refine (CallsIn.inRound l1 (callsIn_wide.2 (end_hi x _))).mono ?_; rintro e w6 ⟨rfl, g6⟩; have D6 := Lib.hid (H6.out.keep g6); have D7 := Lib.hid (H7.out.keep g6); have D8 := Lib.hid (H8.out.keep g6); have e32 := (HF.out.keep g6).1.2 2 _ rfl; have e33 := (HF.out.keep g6).1.2 3 _ rfl; have c7 := D7.out.1.c1; have z7 := D7.out.2 0; have c8 := D8.out.1.c1; have z8 := D8.out.2 0; have c6 := D6.out.1.c1; have z6 := D6.out.2 0; have G6 := Lib.hid g6; clear g6)
      have kk : Kx X W (w6.setCell ⟨w.heap.size + 1 + 1 + 1, 0, none⟩ (.int .i64 S')) := (Kx.gr G6.out).tr (Kx.set (Z := X) (p := ⟨w.heap.size + 1 + 1 + 1, 0, none⟩) X7.out _)
      refine ⟨kk, X, ⟨rfl, HY.out, HK.out.tr kk, D6.out.other n5, ?_, ?_, ?_⟩, fun i e => ⟨by have := Hx0.out i e; have := HK.out.size; have := kk.size; omega, .inl e⟩⟩
      · rw [HSS.out]
        exact D7.out.set (i := 0) (v := .int .i64 S') (by simp)
      · rw [EB.out, Int.add_zero]
        exact D8.out.other n3
      · rw [EB.out, Int.add_zero]
        exact HBa.out
    | true =>
      have hb' : x.2 < low := by simpa using hb
      have eB := HBD.out
      rw [if_pos hb'] at eB
      have EB := Lib.hid eB
      clear eB hb'
      cases hc : decide (ba < Bd + 1) with
      | false =>
        gi_wp2_with (refine ⟨trivial, ?_⟩; gi_at_call 112; refine (CallsIn.inRound l1 (callsIn_wide.2 (end_hi x _))).mono ?_; rintro e w6 ⟨rfl, g6⟩; have D6 := Lib.hid (H6.out.keep g6); have D7 := Lib.hid (H7.out.keep g6); have D8 := Lib.hid (H8.out.keep g6); have e32 := (HF.out.keep g6).1.2 2 _ rfl; have e33 := (HF.out.keep g6).1.2 3 _ rfl; have c7 := D7.out.1.c1; have z7 := D7.out.2 0; have c8 := D8.out.1.c1; have z8 := D8.out.2 0; have c6 := D6.out.1.c1; have z6 := D6.out.2 0; have G6 := Lib.hid g6; clear g6)
        have kk : Kx X W ((w6.setCell ⟨w.heap.size + 1 + 1 + 1, 0, none⟩ (.int .i64 S')).setCell ⟨w.heap.size + 1 + 1 + 1 + 1, 0, none⟩ (.int .i64 (Bd + 1))) := (Kx.gr G6.out).tr ((Kx.set (Z := X) (p := ⟨w.heap.size + 1 + 1 + 1, 0, none⟩) X7.out _).tr (Kx.set (Z := X) (p := ⟨w.heap.size + 1 + 1 + 1 + 1, 0, none⟩) X8.out _))
        refine ⟨kk, X, ⟨rfl, HY.out, HK.out.tr kk, (D6.out.other n5).other n6, ?_, ?_, ?_⟩, fun i e => ⟨by have := Hx0.out i e; have := HK.out.size; have := kk.size; omega, .inl e⟩⟩
        · rw [HSS.out]
          exact (D7.out.set (i := 0) (v := .int .i64 S') (by simp)).other n4
        · rw [EB.out]
          exact (D8.out.other n3).set (i := 0) (v := .int .i64 (Bd + 1)) (by simp)
        · rw [EB.out]
          simp only [decide_eq_false_iff_not] at hc
          omega
      | true =>
        gi_wp2_with (refine ⟨trivial, ?_⟩; gi_at_call 112; refine (CallsIn.inRound l1 (callsIn_wide.2 (end_hi x _))).mono ?_; rintro e w6 ⟨rfl, g6⟩; have D6 := Lib.hid (H6.out.keep g6); have D7 := Lib.hid (H7.out.keep g6); have D8 := Lib.hid (H8.out.keep g6); have e32 := (HF.out.keep g6).1.2 2 _ rfl; have e33 := (HF.out.keep g6).1.2 3 _ rfl; have c7 := D7.out.1.c1; have z7 := D7.out.2 0; have c8 := D8.out.1.c1; have z8 := D8.out.2 0; have c6 := D6.out.1.c1; have z6 := D6.out.2 0; have G6 := Lib.hid g6; clear g6)
        have kk : Kx X W (((w6.setCell ⟨w.heap.size + 1 + 1 + 1, 0, none⟩ (.int .i64 S')).setCell ⟨w.heap.size + 1 + 1 + 1 + 1, 0, none⟩ (.int .i64 (Bd + 1))).setCell ⟨w.heap.size + 1 + 1, 0, none⟩ (.bool false)) := (Kx.gr G6.out).tr ((Kx.set (Z := X) (p := ⟨w.heap.size + 1 + 1 + 1, 0, none⟩) X7.out _).tr ((Kx.set (Z := X) (p := ⟨w.heap.size + 1 + 1 + 1 + 1, 0, none⟩) X8.out _).tr (Kx.set (Z := X) (p := ⟨w.heap.size + 1 + 1, 0, none⟩) X6.out _)))
        refine ⟨kk, rfl, HY.out, HK.out.tr kk, ((D6.out.other n5).other n6).set (i := 0) (v := .bool false) (by simp), ?_⟩
        rw [EB.out]
        simpa using hc
  case done =>
    rintro D xs X Y W hD rfl ⟨rfl, hY, hk, h6, h7, h8, hba⟩ hYD hK
    have f3 := O3.out.kx hk (fun e => by have := Hx0.out _ e; omega)
    have hall : ∀ x ∈ truthsL te off (rl ++ ml), TrB x := fun x hx => by
      obtain ⟨k, _, rfl⟩ := List.mem_map.1 hx
      exact truthAt_bd o0 o1 HB.out k
    obtain ⟨s0, s1⟩ := sumS_bd true _ hall
    have hlen : ((truthsL te off (rl ++ ml)).length : Int) ≤ 1000 := by simp [truthsL]; omega
    obtain ⟨S, hS⟩ : ∃ S, sumS true (truthsL te off (rl ++ ml)) = S := ⟨_, rfl⟩
    rw [hS] at h7 s0 s1
    rw [IntWalk.i64_in S (by omega)] at h7
    have hm0 : 0 ≤ (te : Int) * me := Int.mul_nonneg (by omega) m0
    have hm1 : (te : Int) * me ≤ 1000 * 100000 := Int.mul_le_mul (by omega) m1 m0 (by omega)
    have v0 : IntKind.i64.wrap ((te : Int) * me) = (te : Int) * me := IntWalk.i64_in _ (by omega)
    have e30 := f3.1.2 0 _ rfl
    have e31 := f3.1.2 1 _ rfl
    have c7 := h7.1.c1
    have c6 := h6.1.c1
    have z6 := h6.2 0
    have D6 := Lib.hid h6
    have HKK := Lib.hid hk
    have HS := Lib.hid hS
    have HBa := Lib.hid hba
    have X6 := Lib.hid x6
    clear h6 h7 h8 f3 hk hall hY x6 x7 x8 hba hS s0 s1 hm0 hm1
    gi_wp2
    have oz := D6.out.set (i := 0) (v := .bool (decide ((te : Int) * me ≤ S))) (by simp)
    have kk := HKK.out.tr (Kx.set (Z := X) (w := W) (p := ⟨w.heap.size + 1 + 1, 0, none⟩) X6.out (.bool (decide ((te : Int) * me ≤ S))))
    refine leaves_marks [D] _ (fun E hE => ?_) (by simp) fun w' hk' => ?_
    · simp only [List.mem_singleton] at hE
      subst hE
      exact (Below.heap_setCell _ _ _ _ (by dsimp only; omega)).trans hK
    · have p0 := (oz.kx hk' (fun e => by simp only [List.mem_singleton] at e; omega)).1.c1
      refine ⟨.bool (decide ((te : Int) * me ≤ S)), by simp [results, Try.results110, go_sem, p0], ?_, Kx.toGr (((Kx.gr (Z := noBlock) G4.out).th kk fun i e => ?_).th hk' fun i e => ?_)⟩
      · have e1 : decide (badS true low (truthsL te off (rl ++ ml)) ≤ ba) = true := by simpa using HBa.out
        unfold passB
        rw [e1, HS.out, Bool.true_and]
      · have := Hx0.out i e
        exact .inr (by omega)
      · simp only [List.mem_singleton] at e
        exact .inr (by omega)
  case stop =>
    rintro D c pre Y W hD ⟨m, hm, hpm⟩ ⟨rfl, hY, hk, h6, hbad⟩ hYD hK
    gi_wp2
    refine leaves_marks [D] _ (fun E hE => ?_) (by simp) fun w' hk' => ?_
    · simp only [List.mem_singleton] at hE
      subst hE
      exact hK
    · have p0 := (h6.kx hk' (fun e => by simp only [List.mem_singleton] at e; omega)).1.c1
      refine ⟨.bool false, by simp [results, Try.results110, go_sem, p0], ?_, Kx.toGr (((Kx.gr (Z := noBlock) G4.out).th hk fun i e => ?_).th hk' fun i e => ?_)⟩
      · have h1 := badS_le true low pre ((truthsL te off (rl ++ ml)).drop m)
        rw [hpm, List.take_append_drop, ← hpm] at h1
        have e1 : decide (badS true low (truthsL te off (rl ++ ml)) ≤ ba) = false := by simp; omega
        unfold passB
        rw [e1, Bool.false_and]
      · have := Hx0.out i e
        exact .inr (by omega)
      · simp only [List.mem_singleton] at e
        exact .inr (by omega)

end Go.Proofs.Ytcdilmagcdbogaa

namespace Go.Proofs.Ytcdilmagcdbogaa
set_option linter.unusedVariables false
set_option linter.unusedSimpArgs false
open Go.RowKit

/-- What is known of a lot: 1 it passes, 2 it fails, 3 it is open. -/
def stateL (te me low ba : Int) (l : List (Int × Int)) : Int := if passB false te me low ba l = true then 1 else if passB true te me low ba l = true then 3 else 2

set_option maxRecDepth 100000 in
set_option maxHeartbeats 4000000 in
theorem state_any (te : Nat) (me low ba off : Int) (rl ml : List Int) (ra ma : Option Addr) (rc mc : Nat) (t1 : te ≤ 1000) (m0 : 0 ≤ me) (m1 : me ≤ 100000) (o0 : 0 ≤ off) (o1 : off ≤ 1000) (a0 : 0 ≤ ba) (a1 : ba ≤ 1000) (hB : ∀ r ∈ rl ++ ml, 0 ≤ r ∧ r ≤ 100000) (hl : (rl ++ ml).length ≤ 100000) (w : World) (hr : IRow w ra rl) (hrn : ra = none → rc = 0) (hm : IRow w ma ml) (hmn : ma = none → mc = 0) :
    Calls Try.prog 75 #[.agg #[.int .i64 (te : Int), .int .i64 me, .int .i64 low, .int .i64 ba, .int .i64 off, .slice ra rl.length rc], .slice ma ml.length mc] w fun e w' => e = .returned (.int .i64 (stateL (te : Int) me low ba (truthsL te off (rl ++ ml)))) ∧ Gr w w' := by
  have gU := Gr.al w (.cells #[.int .i64 (te : Int), .int .i64 me, .int .i64 low, .int .i64 ba, .int .i64 off, .slice ra rl.length rc] 147)
  have oU := Own.new w [.int .i64 (te : Int), .int .i64 me, .int .i64 low, .int .i64 ba, .int .i64 off, .slice ra rl.length rc] 147 w.heap.size rfl
  obtain ⟨p1, h1⟩ : ∃ p1, passB false (te : Int) me low ba (truthsL te off (rl ++ ml)) = p1 := ⟨_, rfl⟩
  obtain ⟨p2, h2⟩ : ∃ p2, passB true (te : Int) me low ba (truthsL te off (rl ++ ml)) = p2 := ⟨_, rfl⟩
  have e : stateL (te : Int) me low ba (truthsL te off (rl ++ ml)) = if p1 = true then 1 else if p2 = true then 3 else 2 := by unfold stateL; rw [h1, h2]
  rw [e]
  have P1 : ∀ W, Gr w W → Calls Try.prog 110 #[.agg #[.int .i64 (te : Int), .int .i64 me, .int .i64 low, .int .i64 ba, .int .i64 off, .slice ra rl.length rc], .func (.func 111) #[] #[], .slice ma ml.length mc] W fun e w' => e = .returned (.bool p1) ∧ Gr W w' := fun W g => by
    have h := passes_lo te me low ba off rl ml ra ma rc mc t1 m0 m1 o0 o1 a0 a1 hB hl W (hr.grow g) hrn (hm.grow g) hmn
    rw [h1] at h
    exact h
  have P2 : ∀ W, Gr w W → Calls Try.prog 110 #[.agg #[.int .i64 (te : Int), .int .i64 me, .int .i64 low, .int .i64 ba, .int .i64 off, .slice ra rl.length rc], .func (.func 112) #[] #[], .slice ma ml.length mc] W fun e w' => e = .returned (.bool p2) ∧ Gr W w' := fun W g => by
    have h := passes_hi te me low ba off rl ml ra ma rc mc t1 m0 m1 o0 o1 a0 a1 hB hl W (hr.grow g) hrn (hm.grow g) hmn
    rw [h2] at h
    exact h
  have HP1 := Lib.hid P1
  have HP2 := Lib.hid P2
  have q0 := oU.1.2 0 _ rfl
  have q1 := oU.1.2 1 _ rfl
  have q2 := oU.1.2 2 _ rfl
  have q3 := oU.1.2 3 _ rfl
  have q4 := oU.1.2 4 _ rfl
  have q5 := oU.1.2 5 _ rfl
  have OU := Lib.hid oU
  have GU := Lib.hid gU
  clear P1 P2 e h1 h2 oU gU
  cases p1 with
  | true =>
    go_enter Try.func75, Try.ntmps75
    go_wp2_with (go_at_call 110; refine (HP1.out _ GU.out).mono ?_; rintro e w1 ⟨rfl, g1⟩)
    go_ret
    exact ⟨rfl, GU.out.tr g1⟩
  | false =>
    go_enter Try.func75, Try.ntmps75
    go_wp2_with fail
    refine (HP1.out _ GU.out).mono ?_
    rintro e w1 ⟨rfl, g1⟩
    clear q0 q1 q2 q3 q4 q5
    have o1' := OU.out.keep g1
    have q0 := o1'.1.2 0 _ rfl
    have q1 := o1'.1.2 1 _ rfl
    have q2 := o1'.1.2 2 _ rfl
    have q3 := o1'.1.2 3 _ rfl
    have q4 := o1'.1.2 4 _ rfl
    have q5 := o1'.1.2 5 _ rfl
    have G1 := Lib.hid (GU.out.tr g1)
    clear o1' g1
    go_wp2_with fail
    refine (HP2.out _ G1.out).mono ?_
    rintro e w2 ⟨rfl, g2⟩
    have G2 := Lib.hid (G1.out.tr g2)
    clear g2 q0 q1 q2 q3 q4 q5
    cases p2
    all_goals
      go_wp2
      go_ret
      exact ⟨rfl, G2.out⟩

theorem rule_parts {te me lo ba off : Int} {l : List Int} (h : ruleL te me lo ba off l = 0) : (1 ≤ te ∧ te ≤ 20) ∧ (0 ≤ me ∧ me ≤ 100000) ∧ (0 ≤ ba ∧ ba ≤ te) ∧ (0 ≤ off ∧ off ≤ 1000) ∧ (l.length : Int) ≤ te ∧ ∀ r ∈ l, 0 ≤ r ∧ r ≤ 100000 := by
  unfold ruleL at h
  split at h
  · omega
  rename_i h1
  split at h
  · omega
  rename_i h2
  split at h
  · omega
  rename_i h3
  split at h
  · omega
  rename_i h4
  simp only [Bool.not_eq_false] at h1 h2 h4
  simp only [ruleOk, inB, in1, List.all_cons, List.all_nil, Bool.and_true, Bool.and_eq_true, decide_eq_true_eq] at h1 h2
  refine ⟨by omega, by omega, by omega, by omega, by omega, fun r hr => ?_⟩
  simp only [inB, in1, List.all_eq_true, Bool.and_eq_true, decide_eq_true_eq] at h4
  have := h4 r hr
  omega

set_option maxRecDepth 100000 in
set_option maxHeartbeats 2000000 in
theorem decide_ok (te me lo ba off : Int) (l : List Int) (h : ruleL te me lo ba off l = 0) (a : Option Addr) (cap : Nat) (w : World) (hr : IRow w a l) (hn : a = none → cap = 0) :
    Calls Try.prog 21 #[.agg #[.int .i64 te, .int .i64 me, .int .i64 lo, .int .i64 ba], .slice a l.length cap, .int .i64 off] w fun e w' => e = .returned (.tuple #[.int .i64 (stateL te me lo ba (truthsL te.toNat off l)), .int .i64 0]) ∧ Gr w w' := by
  obtain ⟨⟨x0, x1⟩, ⟨x2, x3⟩, ⟨x4, x5⟩, ⟨x6, x7⟩, x8, x9⟩ := rule_parts h
  obtain ⟨n, rfl⟩ : ∃ n : Nat, te = (n : Int) := ⟨te.toNat, by omega⟩
  rw [Int.toNat_natCast]
  have oU := Own.new w [.int .i64 (n : Int), .int .i64 me, .int .i64 lo, .int .i64 ba] 23 w.heap.size rfl
  have gU := Gr.al w (.cells #[.int .i64 (n : Int), .int .i64 me, .int .i64 lo, .int .i64 ba] 23)
  have hR : ∀ W, Gr w W → Calls Try.prog 20 #[.agg #[.int .i64 (n : Int), .int .i64 me, .int .i64 lo, .int .i64 ba], .slice a l.length cap, .int .i64 off] W fun e w' => e = .returned (.int .i64 0) ∧ Gr W w' := fun W g => by
    have := rule_any (n : Int) me lo ba off l a cap W (hr.grow g)
    rw [h] at this
    exact this
  have hS : ∀ W, Gr w W → Calls Try.prog 75 #[.agg #[.int .i64 (n : Int), .int .i64 me, .int .i64 lo, .int .i64 ba, .int .i64 off, .slice a l.length cap], .slice none 0 0] W fun e w' => e = .returned (.int .i64 (stateL (n : Int) me lo ba (truthsL n off l))) ∧ Gr W w' := fun W g => by
    have := state_any n me lo ba off l [] a none cap 0 (by omega) (by omega) (by omega) (by omega) (by omega) (by omega) (by omega) (by rw [List.append_nil]; exact x9) (by rw [List.append_nil]; omega) W (hr.grow g) hn RowOf.nil (fun _ => rfl)
    rw [List.append_nil] at this
    exact this
  have HR := Lib.hid hR
  have HS := Lib.hid hS
  obtain ⟨q0, q1, q2, q3⟩ := oU.1.c4'
  have OU := Lib.hid oU
  have GU := Lib.hid gU
  clear hR hS oU gU h
  go_enter Try.func21, Try.ntmps21
  go_wp2_with fail
  refine (HR.out _ GU.out).mono ?_
  rintro e w1 ⟨rfl, g1⟩
  obtain ⟨q0, q1, q2, q3⟩ := (OU.out.keep g1).1.c4'
  have G1 := Lib.hid (GU.out.tr g1)
  clear g1
  go_wp2_with fail
  refine (HS.out _ G1.out).mono ?_
  rintro e w2 ⟨rfl, g2⟩
  have G2 := Lib.hid (G1.out.tr g2)
  clear g2
  go_wp2
  go_ret2
  exact ⟨rfl, G2.out⟩

end Go.Proofs.Ytcdilmagcdbogaa

namespace Go.Proofs.Ytcdilmagcdbogaa
set_option linter.unusedVariables false
set_option linter.unusedSimpArgs false
open Go.RowKit

def repi (n : Nat) (x : Int) : List Value := (List.replicate n x).flatMap encI

theorem repi_len (n : Nat) (x : Int) : (repi n x).length = 1 * n := by
  induction n with
  | zero => rfl
  | succ n ih => simp [repi, List.replicate_succ, encI] at ih ⊢ <;> try omega

theorem repi_add (n m : Nat) (x : Int) : repi (n + m) x = repi n x ++ repi m x := by
  unfold repi
  rw [← List.replicate_append_replicate, List.flatMap_append]

theorem repi_one (n : Nat) (x : Int) : ∀ v ∈ repi n x, v.oneCell' = true := by
  intro v hv
  obtain ⟨y, hy, hv⟩ := List.mem_flatMap.1 hv
  have hv' : v ∈ [Value.int .i64 y] := hv
  rw [List.mem_singleton.1 hv']
  rfl

theorem repi_at {k j i : Nat} {x : Int} (hj : j < k) (hi : i < 1) : (repi k x)[j * 1 + i]? = (encI x)[i]? := by
  have e : repi k x = repi j x ++ (repi 1 x ++ repi (k - j - 1) x) := by rw [← repi_add, ← repi_add]; congr 1; omega
  have e1 : repi 1 x = encI x := by simp [repi]
  rw [e, List.getElem?_append_right (by rw [repi_len]; omega), repi_len, show j * 1 + i - 1 * j = i by omega, List.getElem?_append_left (by rw [repi_len]; omega), e1]

theorem infoI1 : (Try.prog.info? 3).map (·.size) = some 1 := by kernel_rfl

set_option maxRecDepth 100000 in
set_option maxHeartbeats 2000000 in
theorem repeat_int (x : Int) (c : Nat) (h1 : 1 ≤ c) (h2 : c ≤ 1000) (a : Option Addr) (cap : Nat) (w : World) (hr : IRow w a [x]) :
    Calls Try.prog 113 #[.slice a 1 cap, .int .i64 (c : Int)] w fun e w' => ∃ a', e = .returned (.slice a' c c) ∧ IRow w' a' (List.replicate c x) ∧ Gr w w' := by
  obtain ⟨i0, hi, hz⟩ := Option.map_eq_some_iff.1 infoInt'
  simp only [Prod.mk.injEq] at hz
  obtain ⟨hz0, hz1, hz2⟩ := hz
  have hmk := run_make (P := Try.prog) w 24 3 i0 _ Try.underlying24 hi hz0 .i64 .i64 (c : Int) (c : Int) (by omega) (Int.le_refl _) (by rw [hz2]; omega) (by omega)
  rw [hz1] at hmk
  simp only [Int.toNat_natCast, Nat.mul_one] at hmk
  have d0 : decide ((c : Int) < 0) = false := by simp
  have d1 : decide ((9223372036854775807 : Int) < (c : Int)) = false := by simp; omega
  have v0 : IntKind.u64.wrap (c : Int) = (c : Int) := by rw [IntKind.wrap_u64]; omega
  have v1 : IntKind.i64.wrap (c : Int) = (c : Int) := IntWalk.i64_in _ (by omega)
  go_enter Try.func113, Try.ntmps113
  obtain ⟨b, off, rfl, hb, _⟩ := hr.2 0 x rfl
  have hnew : (w.alloc (.cells (madeCells #[.int .i64 0] c) 3)).heap[w.heap.size]? = some (.cells (madeCells #[.int .i64 0] c) 3) := World.alloc_heap_new w _
  have hr1 := hr.grow (Gr.al w (.cells (madeCells #[.int .i64 0] c) 3))
  have hsrc : ∀ j v, (repi 1 x)[j]? = some v → (w.alloc (.cells (madeCells #[.int .i64 0] c) 3)).cell? ((Addr.mk b off none).add j) = some v := by
    intro j v hv
    obtain ⟨b', off', e', _, hc⟩ := hr1.2 0 x rfl
    injection e' with e'
    injection e' with e1 e2 _
    subst e1; subst e2
    have h := hc j v (by simpa [repi] using hv)
    rw [WideShapes.add_plain]
    simpa using h
  have hcp := run_copy_wide (P := Try.prog) _ 24 24 3 3 w.heap.size 0 c c ⟨b, off, none⟩ 1 cap 1 1 _ 3 (repi 1 x) Try.underlying24 infoI1 hnew (Nat.min_eq_left h1) (by rw [repi_len]) hsrc (by rw [repi_len, size_madeCells]; omega) (repi_one 1 x)
  rw [World.setRow_alloc_new, show goInt ((1 : Nat) : Int) = .int .i64 1 from rfl] at hcp
  obtain ⟨rest, hrest⟩ : ∃ rest : List Value, (madeCells #[Value.int .i64 0] c).toList.drop (0 + (repi 1 x).length) = rest := ⟨_, rfl⟩
  have hlen : rest.length = 1 * (c - 1) := by rw [← hrest, repi_len, List.length_drop, Array.length_toList, size_madeCells]; omega
  rw [hrest, List.take_zero, List.nil_append] at hcp
  have Hlen := Lib.hid hlen
  clear hnew hr1 hsrc hrest hlen hr
  go_wp2_with (go_at_call 124; refine (mul_one64 c h2 _).mono ?_; rintro e w1 ⟨rfl, rfl⟩)
  clear hmk hcp d0 d1
  go_loopw [8] (fun n wr => Hid (∃ k : Nat, ∃ rest : List Value, n = .int .i64 k ∧ 1 ≤ k ∧ k ≤ c ∧ Gr w1 wr ∧ wr.heap[w1.heap.size]? = some (.cells (repi k x ++ rest).toArray 3) ∧ rest.length = 1 * (c - k))) (fun n _ => c - (intOf n).toNat)
  case atStart => exact Lib.hid ⟨1, rest, rfl, Nat.le_refl _, h1, Gr.al _ _, World.alloc_heap_new _ _, Hlen.out⟩
  case round =>
    obtain ⟨k, rest, rfl, hk1, hkc, gw, hB, hl⟩ := hrel.out
    clear hrel
    by_cases hlt : k < c
    · obtain ⟨m, hm⟩ : ∃ m, Nat.min k (c - k) = m := ⟨_, rfl⟩
      have hm' : min k (c - k) = m := hm
      have m1 : 1 ≤ m := by omega
      have m2 : k + m ≤ c := by omega
      have hmk' : m ≤ k := by omega
      have hBd : wr.drew.heap[w1.heap.size]? = some (.cells (repi k x ++ rest).toArray 3) := hB
      have hsrc : ∀ j v, (repi m x)[j]? = some v → wr.drew.cell? ((Addr.mk w1.heap.size 0 none).add j) = some v := by
        intro j v hv
        have hj : j < 1 * m := by
          have := (List.getElem?_eq_some_iff.1 hv).1
          rwa [repi_len] at this
        have hc : wr.drew.cell? ⟨w1.heap.size, 0 + j, none⟩ = (repi k x ++ rest)[0 + j]? := by
          unfold World.cell?
          rw [hBd]
          simp
        have ek : repi k x = repi m x ++ repi (k - m) x := by rw [← repi_add]; congr 1; omega
        rw [WideShapes.add_plain, hc, Nat.zero_add, ek, List.append_assoc, List.getElem?_append_left (by rw [repi_len]; exact hj)]
        exact hv
      have hcp := run_copy_wide (P := Try.prog) wr.drew 24 24 3 3 w1.heap.size (k * 1) (c - k) (c - k) ⟨w1.heap.size, 0, none⟩ k c m 1 _ 3 (repi m x) Try.underlying24 infoI1 hBd hm (by rw [repi_len]; omega) hsrc (by simp [repi_len]; omega) (repi_one m x)
      rw [show goInt ((m : Nat) : Int) = .int .i64 (m : Int) from rfl] at hcp
      obtain ⟨row, hrow⟩ : ∃ row, (((repi k x ++ rest).toArray.toList.take (k * 1) ++ repi m x ++ (repi k x ++ rest).toArray.toList.drop (k * 1 + (repi m x).length)).toArray) = row := ⟨_, rfl⟩
      rw [hrow, Nat.mul_one] at hcp
      have e1 : row = (repi (k + m) x ++ rest.drop (1 * m)).toArray := by
        rw [← hrow]
        congr 1
        show (repi k x ++ rest).take (k * 1) ++ repi m x ++ (repi k x ++ rest).drop (k * 1 + (repi m x).length) = _
        rw [repi_len, List.take_append_of_le_length (by rw [repi_len]; omega), List.take_of_length_le (by rw [repi_len]; omega), List.drop_append, repi_len, List.drop_of_length_le (by rw [repi_len]; omega), List.nil_append, repi_add, show k * 1 + 1 * m - 1 * k = 1 * m by omega]
      have hB' : (wr.drew.setRow w1.heap.size row).heap[w1.heap.size]? = some (.cells (repi (k + m) x ++ rest.drop (1 * m)).toArray 3) := by
        rw [← e1]
        exact setRow_heap _ _ _ _ _ _ hBd
      have g' : Gr w1 (wr.drew.setRow w1.heap.size row) := below_setRow (gw.tr (Gr.dr wr)) (Nat.le_refl _) _
      have l' : (rest.drop (1 * m)).length = 1 * (c - (k + m)) := by rw [List.length_drop, hl]; omega
      have v2 : IntKind.i64.wrap ((k : Int) + (m : Int)) = ((k + m : Nat) : Int) := by rw [IntWalk.i64_in _ (by omega)]; omega
      have HN := Lib.hid (And.intro hB' (And.intro g' l'))
      clear hB' g' l' e1 hrow hsrc hBd hB gw hl hm hm'
      go_wp2
      have hmx : Try.prog.follows .mixedOrders = true := by kernel_rfl
      go_region
      go_wp2
      go_roundw
      case rel => exact Lib.hid ⟨k + m, rest.drop (1 * m), by go_num, by omega, m2, HN.out.2.1, HN.out.1, HN.out.2.2⟩
      case measure => simp [intOf]; omega
    · obtain rfl : k = c := by omega
      go_wp2
      go_ret
      refine ⟨_, rfl, ⟨by simp; omega, fun j y hy => ?_⟩, gw⟩
      obtain ⟨hj, e⟩ := List.getElem?_eq_some_iff.1 hy
      have hj' : j < k := by simpa using hj
      have ey : x = y := by simpa using e
      subst ey
      refine ⟨_, _, rfl, (Array.getElem?_eq_some_iff.1 hB).1, fun i v hv => ?_⟩
      have hr0 : rest = [] := List.eq_nil_of_length_eq_zero (by omega)
      have hi4 : i < 1 := by
        have := (List.getElem?_eq_some_iff.1 hv).1
        simpa [encI] using this
      have hc : wr.cell? ⟨w1.heap.size, j * 1 + i, none⟩ = (repi k x)[j * 1 + i]? := by
        unfold World.cell?
        rw [hB, hr0, List.append_nil]
        simp
      rw [Nat.zero_add, hc, repi_at hj' hi4]
      exact hv

end Go.Proofs.Ytcdilmagcdbogaa

namespace Go.Proofs.Ytcdilmagcdbogaa
set_option linter.unusedVariables false
set_option linter.unusedSimpArgs false
open Go.RowKit

theorem mul_one64z (w : World) :
    Calls Try.prog 124 #[.int .u64 1, .int .u64 0] w fun e w' => e = .returned (.tuple #[.int .u64 0, .int .u64 0]) ∧ w' = w := mul_one64 0 (by omega) w

set_option maxRecDepth 100000 in
set_option maxHeartbeats 2000000 in
theorem repeat_int0 (x : Int) (a : Option Addr) (cap : Nat) (w : World) (hr : IRow w a [x]) :
    Calls Try.prog 113 #[.slice a 1 cap, .int .i64 0] w fun e w' => ∃ a', e = .returned (.slice a' 0 0) ∧ (∃ b, a' = some b) ∧ Gr w w' := by
  obtain ⟨i0, hi, hz⟩ := Option.map_eq_some_iff.1 infoInt'
  simp only [Prod.mk.injEq] at hz
  obtain ⟨hz0, hz1, hz2⟩ := hz
  have hmk := run_make (P := Try.prog) w 24 3 i0 _ Try.underlying24 hi hz0 .i64 .i64 0 0 (by omega) (Int.le_refl _) (by omega) (by omega)
  rw [show madeCells (Value.int .i64 0).cells ((0 : Int).toNat * i0.size) = #[] by simp [madeCells]] at hmk
  obtain ⟨b, off, rfl, hb, _⟩ := hr.2 0 x rfl
  have hnew : (w.alloc (.cells #[] 3)).heap[w.heap.size]? = some (.cells #[] 3) := World.alloc_heap_new w _
  have hcp := run_copy_wide (P := Try.prog) _ 24 24 3 3 w.heap.size 0 0 0 ⟨b, off, none⟩ 1 cap 0 1 _ 3 [] Try.underlying24 infoI1 hnew rfl rfl (fun j v h => by simp at h) (by simp) (fun v h => by cases h)
  rw [World.setRow_alloc_new, show goInt ((0 : Nat) : Int) = .int .i64 0 from rfl] at hcp
  clear hnew hr
  go_enter Try.func113, Try.ntmps113
  go_wp2_with (go_at_call 124; refine (mul_one64z _).mono ?_; rintro e w1 ⟨rfl, rfl⟩)
  clear hmk hcp
  go_loopw [8] (fun n wr => Hid (n = .int .i64 0 ∧ Gr w1 wr)) (fun n _ => 0)
  case atStart => exact Lib.hid ⟨rfl, Gr.al _ _⟩
  case round =>
    obtain ⟨rfl, gw⟩ := hrel.out
    clear hrel
    go_wp2
    go_ret
    exact ⟨_, rfl, ⟨_, rfl⟩, gw⟩

/-- However often. -/
theorem repeat_any (x : Int) (c : Nat) (h2 : c ≤ 1000) (a : Option Addr) (cap : Nat) (w : World) (hr : IRow w a [x]) :
    Calls Try.prog 113 #[.slice a 1 cap, .int .i64 (c : Int)] w fun e w' => ∃ a', e = .returned (.slice a' (List.replicate c x).length c) ∧ IRow w' a' (List.replicate c x) ∧ (a' = none → c = 0) ∧ Gr w w' := by
  by_cases h : c = 0
  · subst h
    refine (repeat_int0 x a cap w hr).mono ?_
    rintro e w' ⟨a', rfl, _, g⟩
    exact ⟨a', rfl, RowOf.nil, fun _ => rfl, g⟩
  · refine (repeat_int x c (by omega) h2 a cap w hr).mono ?_
    rintro e w' ⟨a', rfl, hr', g⟩
    refine ⟨a', by simp, hr', fun e => ?_, g⟩
    subst e
    have := irow_nil hr'
    simpa using this

end Go.Proofs.Ytcdilmagcdbogaa

namespace Go.Proofs.Ytcdilmagcdbogaa
set_option linter.unusedVariables false
set_option linter.unusedSimpArgs false
open Go.RowKit

theorem irow_one (v : World) (n : Int) : IRow (v.alloc (.cells (List.toArray [.int .i64 n]) 3)) (some ⟨v.heap.size, 0, none⟩) [n] := by
  have bx := Box.new v [.int .i64 n] 3 v.heap.size rfl
  refine ⟨by simp, fun j y hy => ⟨v.heap.size, 0, rfl, bx.1, fun i u hu => ?_⟩⟩
  have hj : j = 0 := by
    have := (List.getElem?_eq_some_iff.1 hy).1
    simpa using this
  have hi : i = 0 := by
    have := (List.getElem?_eq_some_iff.1 hu).1
    simpa [encI] using this
  subst hj
  subst hi
  simp at hy
  subst hy
  simp [encI] at hu
  subst hu
  exact bx.2 0 _ rfl

theorem repeat_any' (x : Int) (c : Nat) (h2 : c ≤ 1000) (a : Option Addr) (cap : Nat) (w : World) (hr : IRow w a [x]) :
    Calls Try.prog 113 #[.slice a 1 cap, .int .i64 (c : Int)] w fun e w' => ∃ a', e = .returned (.slice a' c c) ∧ IRow w' a' (List.replicate c x) ∧ (a' = none → c = 0) ∧ Gr w w' := by
  refine (repeat_any x c h2 a cap w hr).mono ?_
  rintro e w' ⟨a', rfl, h⟩
  exact ⟨a', by rw [List.length_replicate], h⟩

def stAt (te : Nat) (me low ba off : Int) (rl : List Int) (rd : Int) (k : Nat) : Int := stateL (te : Int) me low ba (truthsL te off (rl ++ List.replicate k rd))

def needL (te : Nat) (me low ba off : Int) (rl : List Int) (st rd : Int) : Int := match (List.range (te + 1 - rl.length)).find? (fun k => decide (stAt te me low ba off rl rd k = st)) with
  | some k => (k : Int)
  | none => -1

set_option maxRecDepth 100000 in
set_option maxHeartbeats 4000000 in
theorem need_any (te : Nat) (me low ba off : Int) (rl : List Int) (ra : Option Addr) (rc : Nat) (st rd : Int) (t1 : te ≤ 1000) (m0 : 0 ≤ me) (m1 : me ≤ 100000) (o0 : 0 ≤ off) (o1 : off ≤ 1000) (a0 : 0 ≤ ba) (a1 : ba ≤ 1000) (hB : ∀ r ∈ rl, 0 ≤ r ∧ r ≤ 100000) (hl : rl.length ≤ te) (r0 : 0 ≤ rd) (r1 : rd ≤ 100000) (w : World) (hr : IRow w ra rl) (hrn : ra = none → rc = 0) :
    Calls Try.prog 76 #[.agg #[.int .i64 (te : Int), .int .i64 me, .int .i64 low, .int .i64 ba, .int .i64 off, .slice ra rl.length rc], .int .i64 st, .int .i64 rd] w fun e w' => e = .returned (.int .i64 (needL te me low ba off rl st rd)) ∧ Gr w w' := by
  have gU := Gr.al w (.cells #[.int .i64 (te : Int), .int .i64 me, .int .i64 low, .int .i64 ba, .int .i64 off, .slice ra rl.length rc] 147)
  have oU := Own.new w [.int .i64 (te : Int), .int .i64 me, .int .i64 low, .int .i64 ba, .int .i64 off, .slice ra rl.length rc] 147 w.heap.size rfl
  obtain ⟨M, hM⟩ : ∃ M : Nat, te + 1 - rl.length = M := ⟨_, rfl⟩
  have v0 : IntKind.i64.wrap ((te : Int) - (rl.length : Int)) = (te : Int) - (rl.length : Int) := IntWalk.i64_in _ (by omega)
  have v1 : IntKind.i64.wrap ((te : Int) - (rl.length : Int) + 1) = (M : Int) := by rw [IntWalk.i64_in _ (by omega)]; omega
  have q0 := oU.1.2 0 _ rfl
  have q5 := oU.1.2 5 _ rfl
  have OU := Lib.hid oU
  have GU := Lib.hid gU
  have HR := Lib.hid hr
  have HB := Lib.hid hB
  clear oU gU hr hB
  go_enter Try.func76, Try.ntmps76
  go_wp2
  clear q0 q5 v0 v1
  go_loopw [16] (fun i wr => Hid (∃ k : Nat, k ≤ M ∧ i = .int .i64 k ∧ (∀ j, j < k → stAt te me low ba off rl rd j ≠ st) ∧ Gr (w.alloc (.cells #[.int .i64 (te : Int), .int .i64 me, .int .i64 low, .int .i64 ba, .int .i64 off, .slice ra rl.length rc] 147)) wr)) (fun i _ => M - (intOf i).toNat)
  case atStart => exact Lib.hid ⟨0, Nat.zero_le _, rfl, fun j hj => by omega, Below.refl _ _⟩
  case round =>
    obtain ⟨k, hk, rfl, hno, gw⟩ := hrel.out
    clear hrel
    have HNO := Lib.hid hno
    clear hno
    by_cases hlt : k < M
    · have hO := OU.out.keep gw
      have hrr := HR.out.grow (GU.out.tr gw)
      have HO := Lib.hid hO
      have HRR := Lib.hid hrr
      have GW := Lib.hid gw
      obtain ⟨sk, hsk⟩ : ∃ sk, stAt te me low ba off rl rd k = sk := ⟨_, rfl⟩
      have hbd : ∀ r ∈ rl ++ List.replicate k rd, 0 ≤ r ∧ r ≤ 100000 := fun r h => by
        rcases List.mem_append.1 h with h | h
        · exact HB.out r h
        · rw [(List.mem_replicate.1 h).2]; exact ⟨r0, r1⟩
      have hlen : (rl ++ List.replicate k rd).length ≤ 100000 := by simp; omega
      clear hO hrr gw
      go_upto_region 4 with fail
      refine wp_region_facts 7 [(2, 1), (4, 2), (4, 3), (5, 0), (5, 4)] (fun x => ⟨#[.agg #[.int .i64 (te : Int), .int .i64 me, .int .i64 low, .int .i64 ba, .int .i64 off, .slice ra rl.length rc], .int .i64 st, .int .i64 rd, .pointer (some ⟨w.heap.size, 0, none⟩), undef, undef, u6, .int .i64 (k : Int), .pointer (some ⟨w.heap.size, 0, none⟩), .pointer (some ⟨w.heap.size, 0, none⟩), .int .i64 (te : Int), .pointer (some ⟨w.heap.size, 5, none⟩), .slice ra rl.length rc, .int .i64 (rl.length : Int), .int .i64 ((te : Int) - (rl.length : Int)), .int .i64 (M : Int), .int .i64 (k : Int), .bool true, .int .i64 (k : Int), x 0, x 1, x 2, x 3, x 4, x 5, x 6, u26, u27, u28], []⟩) (fun i => [u19, u20, u21, u22, u23, u24, u25].getD i undef) [fun _ x => x = .agg #[.int .i64 (te : Int), .int .i64 me, .int .i64 low, .int .i64 ba, .int .i64 off, .slice ra rl.length rc], fun _ x => x = .int .i64 rd, fun v x => ∃ b, x = .slice (some ⟨b, 0, none⟩) 1 1 ∧ IRow v (some ⟨b, 0, none⟩) [rd], fun _ x => x = .int .i64 (k : Int), fun v x => ∃ a, x = .slice a k k ∧ IRow v a (List.replicate k rd) ∧ (a = none → k = 0), fun _ x => x = .int .i64 sk, fun _ x => x = .int .i64 st] (by rfl) (by kernel_rfl) (by kernel_rfl) (by kernel_rfl) (stays_cons (Stays.eq _) (stays_cons (Stays.eq _) (stays_cons ((show Stays (fun v x => ∃ b, x = .slice (some ⟨b, 0, none⟩) 1 1 ∧ IRow v (some ⟨b, 0, none⟩) [rd]) from fun v v' x g ⟨b, h, r⟩ => ⟨b, h, r.grow g⟩)) (stays_cons (Stays.eq _) (stays_cons ((show Stays (fun v x => ∃ a, x = .slice a k k ∧ IRow v a (List.replicate k rd) ∧ (a = none → k = 0)) from fun v v' x g ⟨a, h, r, n⟩ => ⟨a, h, r.grow g, n⟩)) (stays_cons (Stays.eq _) (stays_cons (Stays.eq _) stays_nil))))))) ?step4 ?fin4
      case step4 =>
        rintro i hi x v gv hd K hK
        have hi8 : i = 0 ∨ i = 1 ∨ i = 2 ∨ i = 3 ∨ i = 4 ∨ i = 5 ∨ i = 6 := by omega
        rcases hi8 with rfl | rfl | rfl | rfl | rfl | rfl | rfl
        · show wpOp Try.prog _ _ 0 K (⟨#[.agg #[.int .i64 (te : Int), .int .i64 me, .int .i64 low, .int .i64 ba, .int .i64 off, .slice ra rl.length rc], .int .i64 st, .int .i64 rd, .pointer (some ⟨w.heap.size, 0, none⟩), undef, undef, u6, .int .i64 (k : Int), .pointer (some ⟨w.heap.size, 0, none⟩), .pointer (some ⟨w.heap.size, 0, none⟩), .int .i64 (te : Int), .pointer (some ⟨w.heap.size, 5, none⟩), .slice ra rl.length rc, .int .i64 (rl.length : Int), .int .i64 ((te : Int) - (rl.length : Int)), .int .i64 (M : Int), .int .i64 (k : Int), .bool true, .int .i64 (k : Int), x 0, x 1, x 2, x 3, x 4, x 5, x 6, u26, u27, u28], []⟩ : Act) v
          refine wpOp_step rfl (fun K' hK' => ?_)
          have p0 := ((HO.out.keep gv).1.2 0 _ rfl)
          have p1 := ((HO.out.keep gv).1.2 1 _ rfl)
          have p2 := ((HO.out.keep gv).1.2 2 _ rfl)
          have p3 := ((HO.out.keep gv).1.2 3 _ rfl)
          have p4 := ((HO.out.keep gv).1.2 4 _ rfl)
          have p5 := ((HO.out.keep gv).1.2 5 _ rfl)
          go_simp
          exact hK' _ _ (hK _ _ (Below.refl _ _) (at_of rfl (rfl)))
        · show wpOp Try.prog _ _ 1 K (⟨#[.agg #[.int .i64 (te : Int), .int .i64 me, .int .i64 low, .int .i64 ba, .int .i64 off, .slice ra rl.length rc], .int .i64 st, .int .i64 rd, .pointer (some ⟨w.heap.size, 0, none⟩), undef, undef, u6, .int .i64 (k : Int), .pointer (some ⟨w.heap.size, 0, none⟩), .pointer (some ⟨w.heap.size, 0, none⟩), .int .i64 (te : Int), .pointer (some ⟨w.heap.size, 5, none⟩), .slice ra rl.length rc, .int .i64 (rl.length : Int), .int .i64 ((te : Int) - (rl.length : Int)), .int .i64 (M : Int), .int .i64 (k : Int), .bool true, .int .i64 (k : Int), x 0, x 1, x 2, x 3, x 4, x 5, x 6, u26, u27, u28], []⟩ : Act) v
          refine wpOp_step rfl (fun K' hK' => ?_)
          go_simp
          exact hK' _ _ (hK _ _ (Below.refl _ _) (at_of rfl (rfl)))
        · obtain ⟨x, rfl⟩ := upd_of (show x 1 = .int .i64 rd from hd 1 _ (by simp) rfl)
          show wpOp Try.prog _ _ 2 K (⟨#[.agg #[.int .i64 (te : Int), .int .i64 me, .int .i64 low, .int .i64 ba, .int .i64 off, .slice ra rl.length rc], .int .i64 st, .int .i64 rd, .pointer (some ⟨w.heap.size, 0, none⟩), undef, undef, u6, .int .i64 (k : Int), .pointer (some ⟨w.heap.size, 0, none⟩), .pointer (some ⟨w.heap.size, 0, none⟩), .int .i64 (te : Int), .pointer (some ⟨w.heap.size, 5, none⟩), .slice ra rl.length rc, .int .i64 (rl.length : Int), .int .i64 ((te : Int) - (rl.length : Int)), .int .i64 (M : Int), .int .i64 (k : Int), .bool true, .int .i64 (k : Int), x 0, .int .i64 rd, x 2, x 3, x 4, x 5, x 6, u26, u27, u28], []⟩ : Act) v
          refine wpOp_step rfl (fun K' hK' => ?_)
          go_simp
          have hg := Gr.al v (.cells (List.toArray [.int .i64 rd]) 3)
          exact hK' _ _ (hK _ _ hg (at_of rfl (⟨_, rfl, irow_one v rd⟩)))
        · show wpOp Try.prog _ _ 3 K (⟨#[.agg #[.int .i64 (te : Int), .int .i64 me, .int .i64 low, .int .i64 ba, .int .i64 off, .slice ra rl.length rc], .int .i64 st, .int .i64 rd, .pointer (some ⟨w.heap.size, 0, none⟩), undef, undef, u6, .int .i64 (k : Int), .pointer (some ⟨w.heap.size, 0, none⟩), .pointer (some ⟨w.heap.size, 0, none⟩), .int .i64 (te : Int), .pointer (some ⟨w.heap.size, 5, none⟩), .slice ra rl.length rc, .int .i64 (rl.length : Int), .int .i64 ((te : Int) - (rl.length : Int)), .int .i64 (M : Int), .int .i64 (k : Int), .bool true, .int .i64 (k : Int), x 0, x 1, x 2, x 3, x 4, x 5, x 6, u26, u27, u28], []⟩ : Act) v
          refine wpOp_step rfl (fun K' hK' => ?_)
          go_simp
          exact hK' _ _ (hK _ _ (Below.refl _ _) (at_of rfl (rfl)))
        · obtain ⟨b2, e2, h2⟩ := hd 2 _ (by simp) rfl
          obtain ⟨x, rfl⟩ := upd_of (show x 2 = .slice (some ⟨b2, 0, none⟩) 1 1 from e2)
          obtain ⟨x, rfl⟩ := upd_of (show x 3 = .int .i64 (k : Int) from hd 3 _ (by simp) rfl)
          show wpOp Try.prog _ _ 4 K (⟨#[.agg #[.int .i64 (te : Int), .int .i64 me, .int .i64 low, .int .i64 ba, .int .i64 off, .slice ra rl.length rc], .int .i64 st, .int .i64 rd, .pointer (some ⟨w.heap.size, 0, none⟩), undef, undef, u6, .int .i64 (k : Int), .pointer (some ⟨w.heap.size, 0, none⟩), .pointer (some ⟨w.heap.size, 0, none⟩), .int .i64 (te : Int), .pointer (some ⟨w.heap.size, 5, none⟩), .slice ra rl.length rc, .int .i64 (rl.length : Int), .int .i64 ((te : Int) - (rl.length : Int)), .int .i64 (M : Int), .int .i64 (k : Int), .bool true, .int .i64 (k : Int), x 0, x 1, .slice (some ⟨b2, 0, none⟩) 1 1, .int .i64 (k : Int), x 4, x 5, x 6, u26, u27, u28], []⟩ : Act) v
          refine wpOp_step rfl (fun K' hK' => ?_)
          go_simp
          refine (repeat_any' rd k (by omega) (some ⟨b2, 0, none⟩) 1 v h2).mono ?_
          rintro e v' ⟨a4, rfl, hr4, hn4, hg⟩
          exact hK' _ _ (hK _ _ hg (at_of rfl (⟨_, rfl, hr4, hn4⟩)))
        · obtain ⟨x, rfl⟩ := upd_of (show x 0 = .agg #[.int .i64 (te : Int), .int .i64 me, .int .i64 low, .int .i64 ba, .int .i64 off, .slice ra rl.length rc] from hd 0 _ (by simp) rfl)
          obtain ⟨a4, e4, h4, n4⟩ := hd 4 _ (by simp) rfl
          obtain ⟨x, rfl⟩ := upd_of (show x 4 = .slice a4 k k from e4)
          show wpOp Try.prog _ _ 5 K (⟨#[.agg #[.int .i64 (te : Int), .int .i64 me, .int .i64 low, .int .i64 ba, .int .i64 off, .slice ra rl.length rc], .int .i64 st, .int .i64 rd, .pointer (some ⟨w.heap.size, 0, none⟩), undef, undef, u6, .int .i64 (k : Int), .pointer (some ⟨w.heap.size, 0, none⟩), .pointer (some ⟨w.heap.size, 0, none⟩), .int .i64 (te : Int), .pointer (some ⟨w.heap.size, 5, none⟩), .slice ra rl.length rc, .int .i64 (rl.length : Int), .int .i64 ((te : Int) - (rl.length : Int)), .int .i64 (M : Int), .int .i64 (k : Int), .bool true, .int .i64 (k : Int), .agg #[.int .i64 (te : Int), .int .i64 me, .int .i64 low, .int .i64 ba, .int .i64 off, .slice ra rl.length rc], x 1, x 2, x 3, .slice a4 k k, x 5, x 6, u26, u27, u28], []⟩ : Act) v
          refine wpOp_step rfl (fun K' hK' => ?_)
          go_simp
          have c := state_any te me low ba off rl (List.replicate k rd) ra a4 rc k t1 m0 m1 o0 o1 a0 a1 hbd hlen v (HRR.out.grow gv) hrn h4 n4
          rw [List.length_replicate, show stateL (te : Int) me low ba (truthsL te off (rl ++ List.replicate k rd)) = sk from hsk] at c
          refine c.mono ?_
          rintro e v' ⟨rfl, hg⟩
          exact hK' _ _ (hK _ _ hg (at_of rfl (rfl)))
        · show wpOp Try.prog _ _ 6 K (⟨#[.agg #[.int .i64 (te : Int), .int .i64 me, .int .i64 low, .int .i64 ba, .int .i64 off, .slice ra rl.length rc], .int .i64 st, .int .i64 rd, .pointer (some ⟨w.heap.size, 0, none⟩), undef, undef, u6, .int .i64 (k : Int), .pointer (some ⟨w.heap.size, 0, none⟩), .pointer (some ⟨w.heap.size, 0, none⟩), .int .i64 (te : Int), .pointer (some ⟨w.heap.size, 5, none⟩), .slice ra rl.length rc, .int .i64 (rl.length : Int), .int .i64 ((te : Int) - (rl.length : Int)), .int .i64 (M : Int), .int .i64 (k : Int), .bool true, .int .i64 (k : Int), x 0, x 1, x 2, x 3, x 4, x 5, x 6, u26, u27, u28], []⟩ : Act) v
          refine wpOp_step rfl (fun K' hK' => ?_)
          go_simp
          exact hK' _ _ (hK _ _ (Below.refl _ _) (at_of rfl (rfl)))
      case fin4 =>
        rintro x v gv hd
        obtain ⟨x, rfl⟩ := upd_of (show x 5 = .int .i64 sk from hd 5 _ (by omega) rfl)
        obtain ⟨x, rfl⟩ := upd_of (show x 6 = .int .i64 st from hd 6 _ (by omega) rfl)
        clear hd
        show wpList Try.prog _ _ (List.drop 7 _) (⟨#[.agg #[.int .i64 (te : Int), .int .i64 me, .int .i64 low, .int .i64 ba, .int .i64 off, .slice ra rl.length rc], .int .i64 st, .int .i64 rd, .pointer (some ⟨w.heap.size, 0, none⟩), undef, undef, u6, .int .i64 (k : Int), .pointer (some ⟨w.heap.size, 0, none⟩), .pointer (some ⟨w.heap.size, 0, none⟩), .int .i64 (te : Int), .pointer (some ⟨w.heap.size, 5, none⟩), .slice ra rl.length rc, .int .i64 (rl.length : Int), .int .i64 ((te : Int) - (rl.length : Int)), .int .i64 (M : Int), .int .i64 (k : Int), .bool true, .int .i64 (k : Int), x 0, x 1, x 2, x 3, x 4, .int .i64 sk, .int .i64 st, u26, u27, u28], []⟩ : Act) v
        simp only [List.drop_succ_cons, List.drop_zero]
        have gZ := Lib.hid ((GU.out.tr GW.out).tr gv)
        have gY := Lib.hid (GW.out.tr gv)
        clear gv
        by_cases hE : sk = st
        · subst hE
          go_wp2
          go_ret
          refine ⟨?_, gZ.out⟩
          have hf : (List.range (te + 1 - rl.length)).find? (fun k => decide (stAt te me low ba off rl rd k = sk)) = some k := by
            rw [List.find?_range_eq_some]
            exact ⟨by simpa using hsk, List.mem_range.2 (by omega), fun j hj => by simpa using HNO.out j hj⟩
          unfold needL
          rw [hf]
          rfl
        · go_wp2
          go_roundw
          case rel =>
            refine Lib.hid ⟨k + 1, by omega, by go_num, fun j hj => ?_, gY.out⟩
            by_cases hjk : j = k
            · subst hjk
              rw [hsk]
              exact hE
            · exact HNO.out j (by omega)
          case measure => simp [intOf]; omega
    · obtain rfl : k = M := by omega
      go_wp2
      go_ret
      refine ⟨?_, GU.out.tr gw⟩
      have hf : (List.range (te + 1 - rl.length)).find? (fun k => decide (stAt te me low ba off rl rd k = st)) = none := by
        rw [List.find?_range_eq_none]
        intro j hj
        have := HNO.out j (by omega)
        simpa using this
      unfold needL
      rw [hf]
      rfl

end Go.Proofs.Ytcdilmagcdbogaa

namespace Go.Proofs.Ytcdilmagcdbogaa
set_option linter.unusedVariables false
set_option linter.unusedSimpArgs false
open Go.RowKit

set_option maxRecDepth 100000 in
set_option maxHeartbeats 4000000 in
theorem needF_ok (te me lo ba off : Int) (l : List Int) (h : ruleL te me lo ba off l = 0) (a : Option Addr) (cap : Nat) (w : World) (hr : IRow w a l) (hn : a = none → cap = 0) :
    Calls Try.prog 22 #[.agg #[.int .i64 te, .int .i64 me, .int .i64 lo, .int .i64 ba], .slice a l.length cap, .int .i64 off] w fun e w' => e = .returned (.tuple #[.int .i64 (needL te.toNat me lo ba off l 1 100000), .int .i64 (needL te.toNat me lo ba off l 2 0), .int .i64 0]) ∧ Gr w w' := by
  obtain ⟨⟨x0, x1⟩, ⟨x2, x3⟩, ⟨x4, x5⟩, ⟨x6, x7⟩, x8, x9⟩ := rule_parts h
  obtain ⟨n, rfl⟩ : ∃ n : Nat, te = (n : Int) := ⟨te.toNat, by omega⟩
  rw [Int.toNat_natCast]
  have oU := Own.new w [.int .i64 (n : Int), .int .i64 me, .int .i64 lo, .int .i64 ba] 23 w.heap.size rfl
  have gU := Gr.al w (.cells #[.int .i64 (n : Int), .int .i64 me, .int .i64 lo, .int .i64 ba] 23)
  have hR : ∀ W, Gr w W → Calls Try.prog 20 #[.agg #[.int .i64 (n : Int), .int .i64 me, .int .i64 lo, .int .i64 ba], .slice a l.length cap, .int .i64 off] W fun e w' => e = .returned (.int .i64 0) ∧ Gr W w' := fun W g => by
    have := rule_any (n : Int) me lo ba off l a cap W (hr.grow g)
    rw [h] at this
    exact this
  have hS : ∀ (st rd : Int), 0 ≤ rd → rd ≤ 100000 → ∀ W, Gr w W → Calls Try.prog 76 #[.agg #[.int .i64 (n : Int), .int .i64 me, .int .i64 lo, .int .i64 ba, .int .i64 off, .slice a l.length cap], .int .i64 st, .int .i64 rd] W fun e w' => e = .returned (.int .i64 (needL n me lo ba off l st rd)) ∧ Gr W w' := fun st rd r0 r1 W g =>
    need_any n me lo ba off l a cap st rd (by omega) (by omega) (by omega) (by omega) (by omega) (by omega) (by omega) x9 (by omega) r0 r1 W (hr.grow g) hn
  have HR := Lib.hid hR
  have HS := Lib.hid hS
  obtain ⟨q0, q1, q2, q3⟩ := oU.1.c4'
  have OU := Lib.hid oU
  have GU := Lib.hid gU
  clear hR hS oU gU h
  go_enter Try.func22, Try.ntmps22
  go_wp2_with fail
  refine (HR.out _ GU.out).mono ?_
  rintro e w1 ⟨rfl, g1⟩
  obtain ⟨q0, q1, q2, q3⟩ := (OU.out.keep g1).1.c4'
  have G1 := Lib.hid (GU.out.tr g1)
  have bx := Box.new w1 [.int .i64 (n : Int), .int .i64 me, .int .i64 lo, .int .i64 ba, .int .i64 off, .slice a l.length cap] 147 w1.heap.size rfl
  have BX := Lib.hid bx
  clear g1 bx
  go_upto_region 5 with fail
  have GV := Lib.hid (G1.out.tr (Gr.al w1 (.cells #[.int .i64 (n : Int), .int .i64 me, .int .i64 lo, .int .i64 ba, .int .i64 off, .slice a l.length cap] 147)))
  clear q0 q1 q2 q3
  refine wp_region_facts 5 [(1, 0), (3, 2), (4, 1)] (fun x => ⟨#[.agg #[.int .i64 (n : Int), .int .i64 me, .int .i64 lo, .int .i64 ba], .slice a l.length cap, .int .i64 off, .pointer (some ⟨w.heap.size, 0, none⟩), undef, undef, x 4, .int .i64 0, .int .i64 0, .int .i64 0, .pointer (some ⟨w1.heap.size, 0, none⟩), .agg #[.int .i64 (n : Int), .int .i64 me, .int .i64 lo, .int .i64 ba], .slice a l.length cap, .int .i64 off, .int .i64 0, .int .i64 0, .bool false, undef, .agg #[.int .i64 (n : Int), .int .i64 me, .int .i64 lo, .int .i64 ba], .int .i64 off, .agg #[.int .i64 off], .slice a l.length cap, .agg #[.int .i64 (n : Int), .int .i64 me, .int .i64 lo, .int .i64 ba, .int .i64 off, .slice a l.length cap], x 0, x 1, x 2, x 3], []⟩) (fun i => [undef, undef, undef, undef, .int .i64 0].getD i undef) [fun _ x => x = .agg #[.int .i64 (n : Int), .int .i64 me, .int .i64 lo, .int .i64 ba, .int .i64 off, .slice a l.length cap], fun _ x => x = .int .i64 (needL n me lo ba off l 1 100000), fun _ x => x = .agg #[.int .i64 (n : Int), .int .i64 me, .int .i64 lo, .int .i64 ba, .int .i64 off, .slice a l.length cap], fun _ x => x = .int .i64 (needL n me lo ba off l 2 0), fun _ x => x = .int .i64 (needL n me lo ba off l 1 100000)] (by rfl) (by kernel_rfl) (by kernel_rfl) (by kernel_rfl) (stays_cons (Stays.eq _) (stays_cons (Stays.eq _) (stays_cons (Stays.eq _) (stays_cons (Stays.eq _) (stays_cons (Stays.eq _) stays_nil))))) ?step5 ?fin5
  case step5 =>
    rintro i hi x v gv hd K hK
    have hi8 : i = 0 ∨ i = 1 ∨ i = 2 ∨ i = 3 ∨ i = 4 := by omega
    rcases hi8 with rfl | rfl | rfl | rfl | rfl
    · show wpOp Try.prog _ _ 0 K (⟨#[.agg #[.int .i64 (n : Int), .int .i64 me, .int .i64 lo, .int .i64 ba], .slice a l.length cap, .int .i64 off, .pointer (some ⟨w.heap.size, 0, none⟩), undef, undef, x 4, .int .i64 0, .int .i64 0, .int .i64 0, .pointer (some ⟨w1.heap.size, 0, none⟩), .agg #[.int .i64 (n : Int), .int .i64 me, .int .i64 lo, .int .i64 ba], .slice a l.length cap, .int .i64 off, .int .i64 0, .int .i64 0, .bool false, undef, .agg #[.int .i64 (n : Int), .int .i64 me, .int .i64 lo, .int .i64 ba], .int .i64 off, .agg #[.int .i64 off], .slice a l.length cap, .agg #[.int .i64 (n : Int), .int .i64 me, .int .i64 lo, .int .i64 ba, .int .i64 off, .slice a l.length cap], x 0, x 1, x 2, x 3], []⟩ : Act) v
      refine wpOp_step rfl (fun K' hK' => ?_)
      have p0 := ((BX.out.keep gv).2 0 _ rfl)
      have p1 := ((BX.out.keep gv).2 1 _ rfl)
      have p2 := ((BX.out.keep gv).2 2 _ rfl)
      have p3 := ((BX.out.keep gv).2 3 _ rfl)
      have p4 := ((BX.out.keep gv).2 4 _ rfl)
      have p5 := ((BX.out.keep gv).2 5 _ rfl)
      go_simp
      exact hK' _ _ (hK _ _ (Below.refl _ _) (at_of rfl (rfl)))
    · obtain ⟨x, rfl⟩ := upd_of (show x 0 = .agg #[.int .i64 (n : Int), .int .i64 me, .int .i64 lo, .int .i64 ba, .int .i64 off, .slice a l.length cap] from hd 0 _ (by simp) rfl)
      show wpOp Try.prog _ _ 1 K (⟨#[.agg #[.int .i64 (n : Int), .int .i64 me, .int .i64 lo, .int .i64 ba], .slice a l.length cap, .int .i64 off, .pointer (some ⟨w.heap.size, 0, none⟩), undef, undef, x 4, .int .i64 0, .int .i64 0, .int .i64 0, .pointer (some ⟨w1.heap.size, 0, none⟩), .agg #[.int .i64 (n : Int), .int .i64 me, .int .i64 lo, .int .i64 ba], .slice a l.length cap, .int .i64 off, .int .i64 0, .int .i64 0, .bool false, undef, .agg #[.int .i64 (n : Int), .int .i64 me, .int .i64 lo, .int .i64 ba], .int .i64 off, .agg #[.int .i64 off], .slice a l.length cap, .agg #[.int .i64 (n : Int), .int .i64 me, .int .i64 lo, .int .i64 ba, .int .i64 off, .slice a l.length cap], .agg #[.int .i64 (n : Int), .int .i64 me, .int .i64 lo, .int .i64 ba, .int .i64 off, .slice a l.length cap], x 1, x 2, x 3], []⟩ : Act) v
      refine wpOp_step rfl (fun K' hK' => ?_)
      go_simp
      refine (HS.out 1 100000 (by omega) (by omega) v (GV.out.tr gv)).mono ?_
      rintro e v' ⟨rfl, hg⟩
      exact hK' _ _ (hK _ _ hg (at_of rfl (rfl)))
    · show wpOp Try.prog _ _ 2 K (⟨#[.agg #[.int .i64 (n : Int), .int .i64 me, .int .i64 lo, .int .i64 ba], .slice a l.length cap, .int .i64 off, .pointer (some ⟨w.heap.size, 0, none⟩), undef, undef, x 4, .int .i64 0, .int .i64 0, .int .i64 0, .pointer (some ⟨w1.heap.size, 0, none⟩), .agg #[.int .i64 (n : Int), .int .i64 me, .int .i64 lo, .int .i64 ba], .slice a l.length cap, .int .i64 off, .int .i64 0, .int .i64 0, .bool false, undef, .agg #[.int .i64 (n : Int), .int .i64 me, .int .i64 lo, .int .i64 ba], .int .i64 off, .agg #[.int .i64 off], .slice a l.length cap, .agg #[.int .i64 (n : Int), .int .i64 me, .int .i64 lo, .int .i64 ba, .int .i64 off, .slice a l.length cap], x 0, x 1, x 2, x 3], []⟩ : Act) v
      refine wpOp_step rfl (fun K' hK' => ?_)
      have p0 := ((BX.out.keep gv).2 0 _ rfl)
      have p1 := ((BX.out.keep gv).2 1 _ rfl)
      have p2 := ((BX.out.keep gv).2 2 _ rfl)
      have p3 := ((BX.out.keep gv).2 3 _ rfl)
      have p4 := ((BX.out.keep gv).2 4 _ rfl)
      have p5 := ((BX.out.keep gv).2 5 _ rfl)
      go_simp
      exact hK' _ _ (hK _ _ (Below.refl _ _) (at_of rfl (rfl)))
    · obtain ⟨x, rfl⟩ := upd_of (show x 2 = .agg #[.int .i64 (n : Int), .int .i64 me, .int .i64 lo, .int .i64 ba, .int .i64 off, .slice a l.length cap] from hd 2 _ (by simp) rfl)
      show wpOp Try.prog _ _ 3 K (⟨#[.agg #[.int .i64 (n : Int), .int .i64 me, .int .i64 lo, .int .i64 ba], .slice a l.length cap, .int .i64 off, .pointer (some ⟨w.heap.size, 0, none⟩), undef, undef, x 4, .int .i64 0, .int .i64 0, .int .i64 0, .pointer (some ⟨w1.heap.size, 0, none⟩), .agg #[.int .i64 (n : Int), .int .i64 me, .int .i64 lo, .int .i64 ba], .slice a l.length cap, .int .i64 off, .int .i64 0, .int .i64 0, .bool false, undef, .agg #[.int .i64 (n : Int), .int .i64 me, .int .i64 lo, .int .i64 ba], .int .i64 off, .agg #[.int .i64 off], .slice a l.length cap, .agg #[.int .i64 (n : Int), .int .i64 me, .int .i64 lo, .int .i64 ba, .int .i64 off, .slice a l.length cap], x 0, x 1, .agg #[.int .i64 (n : Int), .int .i64 me, .int .i64 lo, .int .i64 ba, .int .i64 off, .slice a l.length cap], x 3], []⟩ : Act) v
      refine wpOp_step rfl (fun K' hK' => ?_)
      go_simp
      refine (HS.out 2 0 (by omega) (by omega) v (GV.out.tr gv)).mono ?_
      rintro e v' ⟨rfl, hg⟩
      exact hK' _ _ (hK _ _ hg (at_of rfl (rfl)))
    · obtain ⟨x, rfl⟩ := upd_of (show x 1 = .int .i64 (needL n me lo ba off l 1 100000) from hd 1 _ (by simp) rfl)
      show wpOp Try.prog _ _ 4 K (⟨#[.agg #[.int .i64 (n : Int), .int .i64 me, .int .i64 lo, .int .i64 ba], .slice a l.length cap, .int .i64 off, .pointer (some ⟨w.heap.size, 0, none⟩), undef, undef, x 4, .int .i64 0, .int .i64 0, .int .i64 0, .pointer (some ⟨w1.heap.size, 0, none⟩), .agg #[.int .i64 (n : Int), .int .i64 me, .int .i64 lo, .int .i64 ba], .slice a l.length cap, .int .i64 off, .int .i64 0, .int .i64 0, .bool false, undef, .agg #[.int .i64 (n : Int), .int .i64 me, .int .i64 lo, .int .i64 ba], .int .i64 off, .agg #[.int .i64 off], .slice a l.length cap, .agg #[.int .i64 (n : Int), .int .i64 me, .int .i64 lo, .int .i64 ba, .int .i64 off, .slice a l.length cap], x 0, .int .i64 (needL n me lo ba off l 1 100000), x 2, x 3], []⟩ : Act) v
      refine wpOp_step rfl (fun K' hK' => ?_)
      go_simp
      exact hK' _ _ (hK _ _ (Below.refl _ _) (at_of rfl (rfl)))
  case fin5 =>
    rintro x v gv hd
    obtain ⟨x, rfl⟩ := upd_of (show x 3 = .int .i64 (needL n me lo ba off l 2 0) from hd 3 _ (by omega) rfl)
    obtain ⟨x, rfl⟩ := upd_of (show x 4 = .int .i64 (needL n me lo ba off l 1 100000) from hd 4 _ (by omega) rfl)
    clear hd
    show wpList Try.prog _ _ (List.drop 5 _) (⟨#[.agg #[.int .i64 (n : Int), .int .i64 me, .int .i64 lo, .int .i64 ba], .slice a l.length cap, .int .i64 off, .pointer (some ⟨w.heap.size, 0, none⟩), undef, undef, .int .i64 (needL n me lo ba off l 1 100000), .int .i64 0, .int .i64 0, .int .i64 0, .pointer (some ⟨w1.heap.size, 0, none⟩), .agg #[.int .i64 (n : Int), .int .i64 me, .int .i64 lo, .int .i64 ba], .slice a l.length cap, .int .i64 off, .int .i64 0, .int .i64 0, .bool false, undef, .agg #[.int .i64 (n : Int), .int .i64 me, .int .i64 lo, .int .i64 ba], .int .i64 off, .agg #[.int .i64 off], .slice a l.length cap, .agg #[.int .i64 (n : Int), .int .i64 me, .int .i64 lo, .int .i64 ba, .int .i64 off, .slice a l.length cap], x 0, x 1, x 2, .int .i64 (needL n me lo ba off l 2 0)], []⟩ : Act) v
    simp only [List.drop_succ_cons, List.drop_zero]
    have GZ := Lib.hid (GV.out.tr gv)
    clear gv
    go_wp2
    exact bodyPost_ret (v := .tuple #[.int .i64 (needL n me lo ba off l 1 100000), .int .i64 (needL n me lo ba off l 2 0), .int .i64 0]) (by simp [results, Try.results22, go_sem]) rfl ⟨rfl, GZ.out⟩

end Go.Proofs.Ytcdilmagcdbogaa

namespace Go.Proofs.Ytcdilmagcdbogaa
set_option linter.unusedVariables false
set_option linter.unusedSimpArgs false
open Go.RowKit

theorem sumS_ge (hi : Bool) (m : Int) : ∀ l : List (Int × Int), (∀ x ∈ l, m ≤ if hi then x.2 else x.1) → (l.length : Int) * m ≤ sumS hi l
  | [], _ => by simp [sumS]
  | y :: l, h => by
    have h1 := sumS_ge hi m l (fun x hx => h x (List.mem_cons_of_mem _ hx))
    have h2 := h y List.mem_cons_self
    simp only [sumS, List.length_cons]
    rw [show ((l.length + 1 : Nat) : Int) = (l.length : Int) + 1 by omega, Int.add_mul, Int.one_mul]
    omega

theorem sumS_le (hi : Bool) (m : Int) : ∀ l : List (Int × Int), (∀ x ∈ l, (if hi then x.2 else x.1) ≤ m) → sumS hi l ≤ (l.length : Int) * m
  | [], _ => by simp [sumS]
  | y :: l, h => by
    have h1 := sumS_le hi m l (fun x hx => h x (List.mem_cons_of_mem _ hx))
    have h2 := h y List.mem_cons_self
    simp only [sumS, List.length_cons]
    rw [show ((l.length + 1 : Nat) : Int) = (l.length : Int) + 1 by omega, Int.add_mul, Int.one_mul]
    omega

theorem badS_len (hi : Bool) (low : Int) : ∀ l : List (Int × Int), badS hi low l ≤ (l.length : Int)
  | [] => by simp [badS]
  | y :: l => by
    have := badS_len hi low l
    simp only [badS, List.length_cons]
    split <;> split <;> omega

theorem truthsL_len (te : Nat) (off : Int) (l : List Int) : (truthsL te off l).length = te := by simp [truthsL]

/-- All readings so great that the least truths are at least the mean: the lot passes. -/
theorem state_pass (n : Nat) (m off : Int) (l : List Int) (h : ∀ k, k < n → m ≤ (truthAt off l k).1) : stateL (n : Int) m 0 (n : Int) (truthsL n off l) = 1 := by
  have hall : ∀ x ∈ truthsL n off l, m ≤ if false = true then x.2 else x.1 := fun x hx => by
    obtain ⟨k, hk, rfl⟩ := List.mem_map.1 hx
    simpa using h k (List.mem_range.1 hk)
  have h1 := sumS_ge false m _ hall
  have h2 := badS_len false 0 (truthsL n off l)
  rw [truthsL_len] at h1 h2
  unfold stateL
  rw [if_pos]
  unfold passB
  rw [decide_eq_true h2, decide_eq_true h1]
  rfl

/-- All readings so small that the greatest truths are below the mean: it fails. -/
theorem state_fail (n : Nat) (hn : 1 ≤ n) (m off : Int) (l : List Int) (h : ∀ k, k < n → (truthAt off l k).2 ≤ m - 1 ∧ (truthAt off l k).1 ≤ m - 1) : stateL (n : Int) m 0 (n : Int) (truthsL n off l) = 2 := by
  have aux : ∀ hi : Bool, passB hi (n : Int) m 0 (n : Int) (truthsL n off l) = false := fun hi => by
    have hall : ∀ x ∈ truthsL n off l, (if hi then x.2 else x.1) ≤ m - 1 := fun x hx => by
      obtain ⟨k, hk, rfl⟩ := List.mem_map.1 hx
      have := h k (List.mem_range.1 hk)
      cases hi
      · simpa using this.2
      · simpa using this.1
    have h1 := sumS_le hi (m - 1) _ hall
    rw [truthsL_len, Int.mul_sub, Int.mul_one] at h1
    have h3 : ¬ (n : Int) * m ≤ sumS hi (truthsL n off l) := by omega
    unfold passB
    rw [decide_eq_false h3, Bool.and_false]
  unfold stateL
  rw [aux false, aux true]
  simp

/-- A lot that passes with n tests needs at most n. -/
theorem need_in (n : Nat) (m low ba off : Int) (st rd : Int) (h : stAt n m low ba off [] rd n = st) : 0 ≤ needL n m low ba off [] st rd ∧ needL n m low ba off [] st rd ≤ n := by
  unfold needL
  cases hf : (List.range (n + 1 - ([] : List Int).length)).find? (fun k => decide (stAt n m low ba off [] rd k = st)) with
  | none =>
    rw [List.find?_range_eq_none] at hf
    have := hf n (by simp)
    simp [h] at this
  | some k =>
    have := List.mem_range.1 (List.mem_of_find?_eq_some hf)
    simp at this ⊢
    omega

/-- What fails needs none. -/
theorem need_zero (n : Nat) (m low ba off : Int) (l : List Int) (hl : l.length ≤ n) (st rd : Int) (h : stateL (n : Int) m low ba (truthsL n off l) = st) : needL n m low ba off l st rd = 0 := by
  have hf : (List.range (n + 1 - l.length)).find? (fun k => decide (stAt n m low ba off l rd k = st)) = some 0 := by
    rw [List.find?_range_eq_some]
    exact ⟨by simp [stAt, h], List.mem_range.2 (by omega), fun j hj => by omega⟩
  unfold needL
  rw [hf]
  rfl

end Go.Proofs.Ytcdilmagcdbogaa

namespace Go.Proofs.Ytcdilmagcdbogaa
set_option linter.unusedVariables false
set_option linter.unusedSimpArgs false

/-- Truths that lie within others. -/
def Within : List (Int × Int) → List (Int × Int) → Prop
  | [], [] => True
  | x :: l, y :: m => (x.1 ≤ y.1 ∧ y.2 ≤ x.2) ∧ Within l m
  | _, _ => False

theorem within_sum : ∀ {l m : List (Int × Int)}, Within l m → sumS false l ≤ sumS false m ∧ sumS true m ≤ sumS true l
  | [], [], _ => by simp [sumS]
  | x :: l, y :: m, h => by
    obtain ⟨⟨a, b⟩, c⟩ := h
    obtain ⟨p, q⟩ := within_sum c
    simp only [sumS, Bool.false_eq_true, if_false, if_true]
    omega
  | [], _ :: _, h => h.elim
  | _ :: _, [], h => h.elim

theorem within_bad {low : Int} : ∀ {l m : List (Int × Int)}, Within l m → badS false low m ≤ badS false low l ∧ badS true low l ≤ badS true low m
  | [], [], _ => by simp [badS]
  | x :: l, y :: m, h => by
    obtain ⟨⟨a, b⟩, c⟩ := h
    obtain ⟨p, q⟩ := within_bad (low := low) c
    simp only [badS, Bool.false_eq_true, if_false, if_true]
    have h1 : (if y.1 < low then (1 : Int) else 0) ≤ if x.1 < low then 1 else 0 := by split <;> split <;> omega
    have h2 : (if x.2 < low then (1 : Int) else 0) ≤ if y.2 < low then 1 else 0 := by split <;> split <;> omega
    omega
  | [], _ :: _, h => h.elim
  | _ :: _, [], h => h.elim

theorem passB_iff {hi : Bool} {te me low ba : Int} {l : List (Int × Int)} : passB hi te me low ba l = true ↔ badS hi low l ≤ ba ∧ te * me ≤ sumS hi l := by
  unfold passB
  rw [Bool.and_eq_true, decide_eq_true_eq, decide_eq_true_eq]

theorem within_lo {te me low ba : Int} {l m : List (Int × Int)} (h : Within l m) (hp : passB false te me low ba l = true) : passB false te me low ba m = true := by
  rw [passB_iff] at hp ⊢
  have h1 := within_sum h
  have h2 := within_bad (low := low) h
  omega

theorem within_hi {te me low ba : Int} {l m : List (Int × Int)} (h : Within l m) (hp : passB true te me low ba m = true) : passB true te me low ba l = true := by
  rw [passB_iff] at hp ⊢
  have h1 := within_sum h
  have h2 := within_bad (low := low) h
  omega

theorem within_map {f g : Nat → Int × Int} : ∀ L : List Nat, (∀ k ∈ L, (f k).1 ≤ (g k).1 ∧ (g k).2 ≤ (f k).2) → Within (L.map f) (L.map g)
  | [], _ => trivial
  | x :: L, h => ⟨h x List.mem_cons_self, within_map L (fun k hk => h k (List.mem_cons_of_mem _ hk))⟩

/-- Truths that are known. -/
def diag (l : List Int) : List (Int × Int) := l.map fun t => (t, t)

theorem diag_sum (hi : Bool) : ∀ l, sumS hi (diag l) = sumS false (diag l)
  | [] => rfl
  | x :: l => by
    have := diag_sum hi l
    simp only [diag, List.map_cons] at this ⊢
    cases hi <;> simp [sumS] <;> simpa using this

theorem diag_bad (hi : Bool) (low : Int) : ∀ l, badS hi low (diag l) = badS false low (diag l)
  | [] => rfl
  | x :: l => by
    have := diag_bad hi low l
    simp only [diag, List.map_cons] at this ⊢
    cases hi <;> simp [badS] <;> simpa using this

theorem diag_pass (hi : Bool) (te me low ba : Int) (l : List Int) : passB hi te me low ba (diag l) = passB false te me low ba (diag l) := by
  unfold passB
  rw [diag_sum hi, diag_bad hi]

theorem state_one {te me low ba : Int} {X : List (Int × Int)} : stateL te me low ba X = 1 ↔ passB false te me low ba X = true := by
  unfold stateL
  by_cases h : passB false te me low ba X = true
  · simp [h]
  · rw [if_neg h]
    constructor
    · intro h2
      split at h2 <;> omega
    · intro h2
      exact absurd h2 h

theorem state_two {te me low ba : Int} {X : List (Int × Int)} : stateL te me low ba X = 2 ↔ passB false te me low ba X = false ∧ passB true te me low ba X = false := by
  unfold stateL
  cases h : passB false te me low ba X <;> cases k : passB true te me low ba X <;> simp

theorem state_bd (te me low ba : Int) (X : List (Int × Int)) : stateL te me low ba X = 1 ∨ stateL te me low ba X = 2 ∨ stateL te me low ba X = 3 := by
  unfold stateL
  split
  · exact .inl rfl
  · split
    · exact .inr (.inr rfl)
    · exact .inr (.inl rfl)

/-- What is sure is so in the end. -/
theorem state_in {te me low ba : Int} {X : List (Int × Int)} {T : List Int} (h : Within X (diag T)) (hx : stateL te me low ba X ≠ 3) : (stateL te me low ba X = 1 ↔ passB false te me low ba (diag T) = true) := by
  constructor
  · intro h1
    exact within_lo h (state_one.1 h1)
  · intro hp
    rcases state_bd te me low ba X with h1 | h2 | h3
    · exact h1
    · have h4 := (state_two.1 h2).2
      rw [← diag_pass true] at hp
      rw [within_hi h hp] at h4
      cases h4
    · exact absurd h3 hx

/-- It stays so. -/
theorem state_up {te me low ba : Int} {X Y : List (Int × Int)} {T : List Int} (h : Within X Y) (k : Within Y (diag T)) (hx : stateL te me low ba X ≠ 3) : stateL te me low ba Y = stateL te me low ba X := by
  rcases state_bd te me low ba X with h1 | h2 | h3
  · rw [h1, state_one]
    exact within_lo h (state_one.1 h1)
  · rw [h2, state_two]
    have h4 := (state_two.1 h2).2
    have h5 : passB true te me low ba Y = false := by
      cases h6 : passB true te me low ba Y with
      | false => rfl
      | true =>
        rw [within_hi h h6] at h4
        cases h4
    refine ⟨?_, h5⟩
    cases h6 : passB false te me low ba Y with
    | false => rfl
    | true =>
      have h7 := within_lo k h6
      rw [← diag_pass true] at h7
      rw [within_hi k h7] at h5
      cases h5
  · exact absurd h3 hx

theorem state_diag (te me low ba : Int) (T : List Int) : stateL te me low ba (diag T) ≠ 3 := by
  unfold stateL
  rw [diag_pass true]
  split
  · decide
  · decide

/-- A test of a lot: what is true, and what the gauge is wrong by. -/
structure V2 where
  a : Int
  b : Int

def encV2 (v : V2) : List Value := [.int .u8 v.a, .int .u8 v.b]

abbrev Row2 := RowOf 2 encV2

def B2 (v : V2) : Prop := (0 ≤ v.a ∧ v.a ≤ 255) ∧ (0 ≤ v.b ∧ v.b ≤ 255)

theorem Row2.get {w : World} {a : Option Addr} {l : List V2} (h : Row2 w a l) {j : Nat} {x : V2} (hx : l[j]? = some x) :
    ∃ b o, a = some ⟨b, o, none⟩ ∧ b < w.heap.size ∧ w.cell? ⟨b, o + j * 2, none⟩ = some (.int .u8 x.a) ∧ w.cell? ⟨b, o + j * 2 + 1, none⟩ = some (.int .u8 x.b) := by
  obtain ⟨b, o, ha, hb, hc⟩ := h.2 j x hx
  exact ⟨b, o, ha, hb, hc 0 _ rfl, hc 1 _ rfl⟩

def lotT (T : List V2) (i : Nat) : V2 := match T[i]? with
  | some v => v
  | none => ⟨100, 0⟩

theorem lotT_bd {T : List V2} (h : ∀ v ∈ T, B2 v) (i : Nat) : B2 (lotT T i) := by
  unfold lotT
  split
  · rename_i v hv
    exact h v (List.mem_of_getElem? hv)
  · exact ⟨⟨by decide, by decide⟩, ⟨by decide, by decide⟩⟩

def lotA (T : List V2) (i : Nat) : Int := (lotT T i).a

def lotR (T : List V2) (off : Int) (i : Nat) : Int := max 0 ((lotT T i).a + (lotT T i).b % (2 * off + 1) - off)

def lotTru (T : List V2) (n : Nat) : List Int := (List.range n).map (lotA T)

def lotRea (T : List V2) (off : Int) (n : Nat) : List Int := (List.range n).map (lotR T off)

theorem lotTru_len (T : List V2) (n : Nat) : (lotTru T n).length = n := by simp [lotTru]

theorem lotRea_len (T : List V2) (off : Int) (n : Nat) : (lotRea T off n).length = n := by simp [lotRea]

theorem lotTru_succ (T : List V2) (n : Nat) : lotTru T (n + 1) = lotTru T n ++ [lotA T n] := by simp [lotTru, List.range_succ]

theorem lotRea_succ (T : List V2) (off : Int) (n : Nat) : lotRea T off (n + 1) = lotRea T off n ++ [lotR T off n] := by simp [lotRea, List.range_succ]

theorem lotA_bd {T : List V2} (h : ∀ v ∈ T, B2 v) (i : Nat) : 0 ≤ lotA T i ∧ lotA T i ≤ 255 := (lotT_bd h i).1

theorem lotR_bd {T : List V2} (h : ∀ v ∈ T, B2 v) {off : Int} (o0 : 0 ≤ off) (o1 : off ≤ 39) (i : Nat) : (0 ≤ lotR T off i ∧ lotR T off i ≤ 294) ∧ lotR T off i - off ≤ lotA T i ∧ lotA T i ≤ lotR T off i + off := by
  obtain ⟨⟨a0, a1⟩, b0, b1⟩ := lotT_bd h i
  have m0 := Int.emod_nonneg (lotT T i).b (b := 2 * off + 1) (by omega)
  have m1 := Int.emod_lt_of_pos (lotT T i).b (b := 2 * off + 1) (by omega)
  unfold lotR lotA
  omega

theorem lotRea_take {T : List V2} {off : Int} {n k i : Nat} (hi : i < n) : ((lotRea T off n).take k)[i]? = if i < k then some (lotR T off i) else none := by
  rw [List.getElem?_take]
  simp [lotRea, hi]

theorem lotRea_mem {T : List V2} (h : ∀ v ∈ T, B2 v) {off : Int} (o0 : 0 ≤ off) (o1 : off ≤ 39) {n : Nat} {r : Int} (hr : r ∈ lotRea T off n) : 0 ≤ r ∧ r ≤ 294 := by
  simp only [lotRea, List.mem_map, List.mem_range] at hr
  obtain ⟨i, _, rfl⟩ := hr
  exact (lotR_bd h o0 o1 i).1

theorem lotTru_mem {T : List V2} (h : ∀ v ∈ T, B2 v) {n : Nat} {r : Int} (hr : r ∈ lotTru T n) : 0 ≤ r ∧ r ≤ 255 := by
  simp only [lotTru, List.mem_map, List.mem_range] at hr
  obtain ⟨i, _, rfl⟩ := hr
  exact lotA_bd h i

theorem diag_tru (T : List V2) (n : Nat) : diag (lotTru T n) = (List.range n).map (fun i => (lotA T i, lotA T i)) := by
  simp [diag, lotTru, Function.comp_def]

theorem tru_within {T : List V2} (h : ∀ v ∈ T, B2 v) {off : Int} (o0 : 0 ≤ off) (o1 : off ≤ 39) (n k : Nat) : Within (truthsL n off ((lotRea T off n).take k)) (diag (lotTru T n)) := by
  rw [diag_tru]
  refine within_map _ (fun i hi => ?_)
  rw [List.mem_range] at hi
  have h1 := lotR_bd h o0 o1 i
  have h2 := lotA_bd h i
  unfold truthAt
  rw [lotRea_take hi]
  by_cases hk : i < k
  · rw [if_pos hk]
    dsimp only
    omega
  · rw [if_neg hk]
    dsimp only
    omega

theorem take_within (n : Nat) (off : Int) (L : List Int) (k : Nat) : Within (truthsL n off (L.take k)) (truthsL n off (L.take (k + 1))) := by
  refine within_map _ (fun i hi => ?_)
  unfold truthAt
  rw [List.getElem?_take, List.getElem?_take]
  by_cases hk : i < k
  · rw [if_pos hk, if_pos (by omega)]
    exact ⟨Int.le_refl _, Int.le_refl _⟩
  · rw [if_neg hk]
    dsimp only
    split <;> dsimp only <;> omega

theorem exact_diag {T : List V2} (h : ∀ v ∈ T, B2 v) (n : Nat) : truthsL n 0 (lotTru T n) = diag (lotTru T n) := by
  rw [diag_tru]
  unfold truthsL
  refine List.map_congr_left (fun i hi => ?_)
  rw [List.mem_range] at hi
  have h2 := lotA_bd h i
  unfold truthAt
  rw [show (lotTru T n)[i]? = some (lotA T i) by simp [lotTru, hi]]
  dsimp only
  rw [Int.max_eq_right (by omega), Int.min_eq_right (by omega)]
  simp

theorem lot_rule {n : Nat} {me lo ba off : Int} {l : List Int} (n1 : 1 ≤ n) (n2 : n ≤ 20) (m0 : 0 ≤ me) (m1 : me ≤ 100000) (l0 : 0 ≤ lo) (l1 : lo ≤ 100000) (b0 : 0 ≤ ba) (b1 : ba ≤ (n : Int)) (o0 : 0 ≤ off) (o1 : off ≤ 1000) (hl : l.length ≤ n) (hB : ∀ r ∈ l, 0 ≤ r ∧ r ≤ 100000) : ruleL (n : Int) me lo ba off l = 0 := by
  have h1 : ruleOk (n : Int) me lo ba = true := by
    simp [ruleOk, inB, in1]
    omega
  have h2 : inB 0 1000 [off] = true := by
    simp [inB, in1]
    omega
  have h3 : ¬ (n : Int) < (l.length : Int) := by omega
  have h4 : inB 0 100000 l = true := by
    simp only [inB, List.all_eq_true]
    intro r hr
    have := hB r hr
    simp [in1]
    omega
  unfold ruleL
  rw [if_neg (by rw [h1]; decide), if_neg (by rw [h2]; decide), if_neg h3, if_neg (by rw [h4]; decide)]

end Go.Proofs.Ytcdilmagcdbogaa

namespace Go.Proofs.Ytcdilmagcdbogaa
set_option linter.unusedVariables false
set_option linter.unusedSimpArgs false
open Go.RowKit

theorem owns_zero {w : World} {base : Nat} {e : TypeId} {size : Nat} {v : Value} {n : Nat} {xs : List Value} (h : w.ownsRow base e size v n xs) : w.ownsRow 0 e size v n xs := by
  obtain ⟨h1, h2⟩ := h
  refine ⟨h1, ?_⟩
  rcases h2 with h2 | ⟨g, cap, cur, hv, _, h3⟩
  · exact .inl h2
  · exact .inr ⟨g, cap, cur, hv, Nat.zero_le _, h3⟩

/-- Two rows that do not lie in one block. -/
def Apart (v u : Value) : Prop := ∀ b, v.ownBlock = some b → u.ownBlock ≠ some b

theorem Apart.symm {v u : Value} (h : Apart v u) : Apart u v := fun b hb hv => h b hv hb

theorem wpList_append_sep {P : Program} (w : World) {ops : Array Oper} {rest : List Oper} {o : Oper} {a : Act} {Q : Exit → Act → World → Prop} (hgd : o.guard = none) (s x : Operand) (t : TypeId)
    (ho : o.op = .call { callee := .builtin .append, args := #[s, x], argTypes := #[t, t] })
    (base : Nat) (e : TypeId) (i : TypeInfo) (z : Value) (size bytes : Nat) (ht : P.underlying t = some (.slice e)) (hi : P.info? e = some i) (hz : i.zero = some z)
    (hsize : i.size = size) (hby : i.bytes = bytes) (hzs : z.cells.size = size) (hsz : 0 < size)
    (v : Value) (n : Nat) (xs : List Value) (hs : a.eval s = v) (hown : w.ownsRow base e size v n xs)
    (ad : Addr) (m c : Nat) (news : List Value) (hx : a.eval x = .slice (some ad) m c) (hl : news.length = m * size) (hnews : ∀ j u, news[j]? = some u → w.cell? (ad.add j) = some u) (h1 : ∀ u ∈ news, u.oneCell' = true)
    (h63 : n + m ≤ maxLen) (hbytes : (n + m) * bytes ≤ 140737488355328) (hbase : base ≤ w.heap.size)
    (u : Value) (k : Nat) (ys : List Value) (hu : w.ownsRow base e size u k ys) (hap : Apart v u)
    (h : ∀ v' w', w'.ownsRow base e size v' (n + m) (xs ++ news) → w.grownBy w' v.ownBlock → w'.ownsRow base e size u k ys → Apart v' u → wpList P ops Q rest (a.put o.dst v') w') : wpList P ops Q (o :: rest) a w := by
  refine wpList_plain hgd fun _ hK => ?_
  obtain ⟨v', w', hr, h2, h3, h4⟩ := run_append_own (P := P) w base t o.type e i z size bytes ht hi hz hsize hby hzs hsz v n xs hown ad m c news hl hnews h1 h63 hbytes hbase
  obtain ⟨v'', w'', hr', _, _, h5⟩ := run_append_new (P := P) w t o.type e i z size bytes ht hi hz hsize hby hzs hsz v n xs (owns_zero hown) ad m c news hl hnews h1 h63 hbytes
  rw [hr] at hr'
  injection hr' with e1 e2
  subst e1
  subst e2
  have hku : w'.ownsRow base e size u k ys := hu.kept h3 (by
    cases hub : u.ownBlock with
    | none => exact .inl rfl
    | some b => exact .inr (fun he => hap b he.symm hub))
  have hap' : Apart v' u := fun b hb hub => by
    rcases (h5 b hb).2 with h6 | h6
    · exact hap b h6 hub
    · have := (hu.lt b hub).2
      omega
  unfold Oper.wp execOp
  simp only [ho, resolve, invoke, builtin, Sem.run_bind, Sem.run_pure, Result.andThen_ok, List.map_toArray, List.map_cons, List.map_nil, hs, hx, hr]
  exact hK _ _ (h v' w' h2 h3 hku hap')

theorem Apart.lit {g k : Nat} {n m c d : Nat} (h : g ≠ k) : Apart (.slice (some ⟨g, 0, none⟩) n c) (.slice (some ⟨k, 0, none⟩) m d) := by
  intro b hb hc
  simp only [Value.ownBlock, Option.some.injEq] at hb hc
  omega

end Go.Proofs.Ytcdilmagcdbogaa

namespace Go.Proofs.Ytcdilmagcdbogaa
set_option linter.unusedVariables false
set_option linter.unusedSimpArgs false
open Go.RowKit

theorem owns_row_cap {α : Type} {enc : α → List Value} {sz : Nat} {w : World} {base : Nat} {e : TypeId} {v : Value} {l : List α} (he : ∀ x, (enc x).length = sz) (hl : l.length ≤ 9223372036854775807) (h : w.ownsRow base e sz v l.length (l.flatMap enc)) :
    ∃ a cap, v = .slice a l.length cap ∧ RowOf sz enc w a l ∧ (a = none → cap = 0) ∧ l.length ≤ cap := by
  obtain ⟨a, cap, hv, hr⟩ := owns_row he hl h
  refine ⟨a, cap, hv, hr, ?_⟩
  rcases h.2 with ⟨hv2, hn⟩ | ⟨b, cap2, cur, hv2, _, _, hc, _⟩
  · rw [hv2] at hv
    injection hv with e1 e2 e3
    exact ⟨fun _ => e3.symm, by omega⟩
  · rw [hv2] at hv
    injection hv with e1 e2 e3
    subst e1
    subst e3
    exact ⟨fun h => (by cases h), hc⟩

set_option maxHeartbeats 400000 in
theorem lints_any (l : List Int) (hl : l.length ≤ 1000) (b off cap : Nat) (w : World) (hr : IRow w (some ⟨b, off, none⟩) l) :
    Calls Try.prog 19 #[.slice (some ⟨b, off, none⟩) l.length cap] w fun e w' => ∃ a' cap', e = .returned (.slice a' l.length cap') ∧ IRow w' a' l ∧ (a' = none → cap' = 0) ∧ l.length ≤ cap' ∧ Gr w w' := by
  obtain ⟨i0, hi, hz0, hz1, hz2⟩ := info_parts infoInt
  have hr1 := hr.grow (Gr.al w (.cells #[] 3))
  have h1 : 0 + l.length ≤ maxLen := by unfold maxLen; omega
  have h2 : (0 + l.length) * 8 ≤ 140737488355328 := by omega
  have hfl := flat_len (enc := encI) (sz := 1) (fun _ => rfl) l
  have hnews := row_news (enc := encI) (sz := 1) (fun _ => rfl) hr1
  have Hfl := Lib.hid hfl
  have Hnews := Lib.hid hnews
  clear hfl hnews
  go_enter Try.func19, Try.ntmps19
  go_wp2_with (at_builtin; refine wpList_append_own _ rfl _ _ 24 rfl w.heap.size 3 i0 (.int .i64 0) 1 8 Try.underlying24 hi hz0 hz1 hz2 rfl (by decide) _ _ _ rfl (owns_empty w _ _) ⟨b, off, none⟩ l.length cap (l.flatMap encI) rfl Hfl.out Hnews.out (one_flat (fun x u hu => by simp [encI] at hu; subst hu; rfl) l) h1 h2 (by simp) ?_; intro v' w1 hown hgrow _)
  obtain ⟨a', cap', hv, hr2, hn2, hc2⟩ := owns_row_cap (enc := encI) (l := l) (fun _ => rfl) (by omega) (by simpa using hown)
  subst hv
  have Hr2 := Lib.hid hr2
  have Hn2 := Lib.hid hn2
  have Hc2 := Lib.hid hc2
  clear hr2 hn2 hown hc2
  go_wp2
  go_ret
  exact ⟨a', ⟨cap', rfl, Hr2.out, Hn2.out, Hc2.out, (Gr.al w _).grown' (owns_empty w _ 1) (Nat.le_refl _) hgrow⟩⟩

theorem diag_app (l : List Int) (x : Int) : diag (l ++ [x]) = diag l ++ [(x, x)] := by simp [diag]

theorem diag_bd {l : List Int} (hB : ∀ x ∈ l, 0 ≤ x ∧ x ≤ 100000) : ∀ x ∈ diag l, TrB x := by
  intro x hx
  simp only [diag, List.mem_map] at hx
  obtain ⟨t, ht, rfl⟩ := hx
  have := hB t ht
  exact ⟨this.1, this.2, this.1, this.2⟩

set_option maxRecDepth 100000 in
set_option maxHeartbeats 1000000 in
theorem lpasses_any (te me lo ba : Int) (l : List Int) (hl : l.length ≤ 1000) (hB : ∀ x ∈ l, 0 ≤ x ∧ x ≤ 100000) (t0 : 0 ≤ te) (t1 : te ≤ 1000) (m0 : 0 ≤ me) (m1 : me ≤ 100000) (a : Option Addr) (cap : Nat) (w : World) (hr : IRow w a l) :
    Calls Try.prog 52 #[.agg #[.int .i64 te, .int .i64 me, .int .i64 lo, .int .i64 ba], .slice a l.length cap] w fun e w' => e = .returned (.bool (passB false te me lo ba (diag l))) ∧ Gr w w' := by
  have gg := Gr.al w (.cells #[.int .i64 te, .int .i64 me, .int .i64 lo, .int .i64 ba] 23)
  have hb := Box.new w [.int .i64 te, .int .i64 me, .int .i64 lo, .int .i64 ba] 23 w.heap.size rfl
  have HB := Lib.hid hb
  have GG := Lib.hid gg
  have HR := Lib.hid (hr.grow gg)
  have q0 : 0 ≤ te * me := Int.mul_nonneg t0 m0
  have q1 : te * me ≤ 1000 * 100000 := Int.mul_le_mul t1 m1 m0 (by omega)
  clear hb gg hr
  go_enter Try.func52, Try.ntmps52
  go_upto_region 2 with fail
  refine wp_abs (fun W => Gr (w.alloc (.cells #[.int .i64 te, .int .i64 me, .int .i64 lo, .int .i64 ba] 23)) W) (Below.refl _ _) ?_
  intro W hW
  go_wp2
  go_loopw [7, 5, 6] (fun t s b wr => Hid (∃ k : Nat, k ≤ l.length ∧ t = .int .i64 k ∧ Gr (w.alloc (.cells #[.int .i64 te, .int .i64 me, .int .i64 lo, .int .i64 ba] 23)) wr ∧ s = .int .i64 (sumS false (diag (l.take k))) ∧ b = .int .i64 (badS false lo (diag (l.take k))))) (fun t _ _ _ => l.length - (intOf t).toNat)
  case atStart => exact Lib.hid ⟨0, Nat.zero_le _, rfl, hW, rfl, rfl⟩
  case round =>
    obtain ⟨k, hk, rfl, gW, rfl, rfl⟩ := hrel.out
    clear hrel
    obtain ⟨x0, x1⟩ := sumS_bd false (diag (l.take k)) (diag_bd (fun x hx => hB x (List.mem_of_mem_take hx)))
    have x2 := badS_0 false lo (diag (l.take k))
    have x3 := badS_len false lo (diag (l.take k))
    have x4 : (diag (l.take k)).length = min k l.length := by simp [diag]
    obtain ⟨p0, p1, p2, p3⟩ := (HB.out.keep gW).c4'
    by_cases hlt : k < l.length
    · obtain ⟨x, hx⟩ : ∃ x, l[k]? = some x := ⟨l[k], by simp [hlt]⟩
      obtain ⟨y0, y1⟩ := hB x (List.mem_of_getElem? hx)
      obtain ⟨b1, o1, rfl, h1, cc⟩ := IRow.get (HR.out.grow gW) hx
      have hs : sumS false (diag (l.take (k + 1))) = sumS false (diag (l.take k)) + x := by
        rw [List.take_add_one, hx, Option.toList_some, diag_app, sumS_app]
        simp
      have hd : badS false lo (diag (l.take (k + 1))) = badS false lo (diag (l.take k)) + if x < lo then 1 else 0 := by
        rw [List.take_add_one, hx, Option.toList_some, diag_app, badS_app]
        simp
      rw [x4] at x1 x3
      have HS := Lib.hid hs
      have HD := Lib.hid hd
      generalize sumS false (diag (l.take k)) = S at *
      generalize badS false lo (diag (l.take k)) = B at *
      clear hs hd hx x4
      by_cases hlo : x < lo
      · go_upto_region 6 with fail
        go_quiet (fail)
        go_wp2
        go_roundw
        case rel => exact Lib.hid ⟨k + 1, by omega, by go_num, gW.drewN _, by rw [HS.out], by rw [HD.out, if_pos hlo]⟩
        case measure => simp [intOf]; omega
      · go_upto_region 6 with fail
        go_quiet (fail)
        go_wp2
        go_roundw
        case rel => exact Lib.hid ⟨k + 1, by omega, by go_num, gW.drewN _, by rw [HS.out], by rw [HD.out, if_neg hlo, Int.add_zero]⟩
        case measure => simp [intOf]; omega
    · obtain rfl : k = l.length := by omega
      rw [List.take_length] at *
      have E0 : passB false te me lo ba (diag l) = (decide (badS false lo (diag l) ≤ ba) && decide (te * me ≤ sumS false (diag l))) := rfl
      generalize sumS false (diag l) = S at *
      generalize badS false lo (diag l) = B at *
      by_cases hm : te * me ≤ S
      · have E := Lib.hid (E0.trans (show (decide (B ≤ ba) && decide (te * me ≤ S)) = decide (B ≤ ba) by simp [hm]))
        clear E0
        go_wp2
        go_ret
        exact ⟨ret_bool E.out.symm, GG.out.tr gW⟩
      · have E := Lib.hid (E0.trans (show (decide (B ≤ ba) && decide (te * me ≤ S)) = false by simp [hm]))
        have hm' : decide (te * me ≤ S) = false := by simpa using hm
        clear E0
        go_wp2
        go_ret
        exact ⟨ret_bool E.out.symm, GG.out.tr gW⟩

end Go.Proofs.Ytcdilmagcdbogaa

namespace Go.Proofs.Ytcdilmagcdbogaa
set_option linter.unusedVariables false
set_option linter.unusedSimpArgs false
open Go.RowKit

/-- A lot is handed back. -/
def LotPost (n : Nat) (me lo ba off : Int) (T : List V2) (w : World) (e : Ending) (w' : World) : Prop :=
  ∃ A Ao R Ro c d, e = .returned (.tuple #[.agg #[.int .i64 (n : Int), .int .i64 me, .int .i64 lo, .int .i64 ba], .int .i64 off, .slice (some ⟨A, Ao, none⟩) n c, .slice (some ⟨R, Ro, none⟩) n d]) ∧ IRow w' (some ⟨A, Ao, none⟩) (lotTru T n) ∧ IRow w' (some ⟨R, Ro, none⟩) (lotRea T off n) ∧ n ≤ c ∧ n ≤ d ∧ Gr w w'

theorem Apart.after {v u : Value} {g n c H : Nat} (h : Apart v u) (hg : u.ownBlock = some g ∨ g = H) (hv : ∀ b, v.ownBlock = some b → b < H) : Apart v (.slice (some ⟨g, 0, none⟩) n c) := by
  intro b hb hc
  simp only [Value.ownBlock, Option.some.injEq] at hc
  subst hc
  rcases hg with hg | rfl
  · exact h g hb hg
  · have := hv _ hb
    omega

theorem owns_apart {w w' : World} {base : Nat} {e : TypeId} {sz : Nat} {u v : Value} {n : Nat} {xs : List Value} (h : w.ownsRow base e sz u n xs) (hg : w.grownBy w' v.ownBlock) (ha : Apart u v) : w'.ownsRow base e sz u n xs :=
  h.kept hg (by
    cases hub : u.ownBlock with
    | none => exact .inl rfl
    | some b => exact .inr (fun he => ha b hub he.symm))

def TestHeld (b : Nat) (va vb : Int) (u : World) : Prop := u.cell? ⟨b, 0, none⟩ = some (.int .u8 va) ∧ u.cell? ⟨b, 1, none⟩ = some (.int .u8 vb)

def LotHeld (b : Nat) (r0 r1 r2 r3 of : Int) (u : World) : Prop := u.cell? ⟨b, 0, none⟩ = some (.int .u8 r0) ∧ u.cell? ⟨b, 1, none⟩ = some (.int .u8 r1) ∧ u.cell? ⟨b, 2, none⟩ = some (.int .u8 r2) ∧ u.cell? ⟨b, 3, none⟩ = some (.int .u8 r3) ∧ u.cell? ⟨b, 4, none⟩ = some (.int .u8 of)

set_option maxRecDepth 100000 in
set_option maxHeartbeats 4000000 in
theorem lot_any (r0 r1 r2 r3 of : Int) (T : List V2) (hT : ∀ v ∈ T, B2 v) (h0 : 0 ≤ r0 ∧ r0 ≤ 255) (h1 : 0 ≤ r1 ∧ r1 ≤ 255) (h2 : 0 ≤ r2 ∧ r2 ≤ 255) (h3 : 0 ≤ r3 ∧ r3 ≤ 255) (h4 : 0 ≤ of ∧ of ≤ 255)
    (n : Nat) (hn : 1 + r0 % 8 = (n : Int)) (ba : Int) (hba : r3 % ((n : Int) + 1) = ba) (off : Int) (hoff : of % 40 = off) (ta : Option Addr) (tc : Nat) (w : World) (rt : Row2 w ta T) :
    Calls Try.prog 51 #[.agg #[.int .u8 r0, .int .u8 r1, .int .u8 r2, .int .u8 r3, .int .u8 of, .slice ta T.length tc]] w (LotPost n r1 r2 ba off T w) := by
  have gg := (Gr.al w (.cells #[.int .u8 r0, .int .u8 r1, .int .u8 r2, .int .u8 r3, .int .u8 of, .slice ta T.length tc] 83)).tr (Gr.al _ (.cells #[.int .i64 0, .int .i64 0, .int .i64 0, .int .i64 0] 23))
  have hx := (Box.new w [.int .u8 r0, .int .u8 r1, .int .u8 r2, .int .u8 r3, .int .u8 of, .slice ta T.length tc] 83 w.heap.size rfl).keep (Gr.al _ (.cells #[.int .i64 0, .int .i64 0, .int .i64 0, .int .i64 0] 23))
  have hc := Own.new (w.alloc (.cells #[.int .u8 r0, .int .u8 r1, .int .u8 r2, .int .u8 r3, .int .u8 of, .slice ta T.length tc] 83)) [.int .i64 0, .int .i64 0, .int .i64 0, .int .i64 0] 23 (w.heap.size + 1) (by simp)
  have HT := Lib.hid hT
  clear hT
  go_enter Try.func51, Try.ntmps51
  go_upto_region 1 with fail
  refine wp_abs (fun U => Gr w U ∧ Box U w.heap.size [.int .u8 r0, .int .u8 r1, .int .u8 r2, .int .u8 r3, .int .u8 of, .slice ta T.length tc] ∧ Own U (w.heap.size + 1) [.int .i64 0, .int .i64 0, .int .i64 0, .int .i64 0]) ⟨gg, hx, hc⟩ ?_
  clear gg hx hc
  rintro U ⟨gg, hx, hc⟩
  have n1 : 1 ≤ n := by omega
  have n2 : n ≤ 8 := by omega
  have o0 : 0 ≤ off := by omega
  have o1 : off ≤ 39 := by omega
  have b0 : 0 ≤ ba := by rw [← hba]; exact Int.emod_nonneg _ (by omega)
  have b1 : ba < (n : Int) + 1 := by rw [← hba]; exact Int.emod_lt_of_pos _ (by omega)
  have z0 : r0.tmod 8 = r0 % 8 := Int.tmod_eq_emod_of_nonneg h0.1
  have z1 : IntKind.i64.wrap (1 + r0 % 8) = (n : Int) := by rw [IntWalk.i64_in _ (by omega)]; exact hn
  have z2 : IntKind.i64.wrap ((n : Int) + 1) = (n : Int) + 1 := IntWalk.i64_in _ (by omega)
  have z3 : ¬ ((n : Int) + 1 = 0) := by omega
  have z4 : r3.tmod ((n : Int) + 1) = ba := by rw [Int.tmod_eq_emod_of_nonneg h3.1]; exact hba
  have z5 : of.tmod 40 = off := by rw [Int.tmod_eq_emod_of_nonneg h4.1]; exact hoff
  have w1 : IntKind.i64.wrap r1 = r1 := IntWalk.i64_in _ (by omega)
  have w2 : IntKind.i64.wrap r2 = r2 := IntWalk.i64_in _ (by omega)
  have w3 : IntKind.i64.wrap r3 = r3 := IntWalk.i64_in _ (by omega)
  have w4 : IntKind.i64.wrap of = of := IntWalk.i64_in _ (by omega)
  have w5 : IntKind.i64.wrap ba = ba := IntWalk.i64_in _ (by omega)
  have w6 : IntKind.i64.wrap off = off := IntWalk.i64_in _ (by omega)
  obtain ⟨q0, q1, q2, q3, q4, q5⟩ := hx.c6
  go_upto_region 2 with fail
  have hF : LotHeld w.heap.size r0 r1 r2 r3 of U.drew := ⟨q0, q1, q2, q3, q4⟩
  haveI : Nonempty (AtW (LotHeld w.heap.size r0 r1 r2 r3 of)) := ⟨⟨_, hF⟩⟩
  have x1_ : ∀ u : AtW (LotHeld w.heap.size r0 r1 r2 r3 of), u.val.cell? ⟨w.heap.size, 1, none⟩ = some (.int .u8 r1) := fun u => u.property.2.1
  have x2_ : ∀ u : AtW (LotHeld w.heap.size r0 r1 r2 r3 of), u.val.cell? ⟨w.heap.size, 2, none⟩ = some (.int .u8 r2) := fun u => u.property.2.2.1
  have x3_ : ∀ u : AtW (LotHeld w.heap.size r0 r1 r2 r3 of), u.val.cell? ⟨w.heap.size, 3, none⟩ = some (.int .u8 r3) := fun u => u.property.2.2.2.1
  have x4_ : ∀ u : AtW (LotHeld w.heap.size r0 r1 r2 r3 of), u.val.cell? ⟨w.heap.size, 4, none⟩ = some (.int .u8 of) := fun u => u.property.2.2.2.2
  clear q0 q1 q2 q3 q4 q5
  refine wp_region_ord (fun w' => ∃ u : AtW (LotHeld w.heap.size r0 r1 r2 r3 of), w' = u.val) 23 ((List.range' 0 21).map (fun i => (i, true)) ++ [(21, false), (22, false)]) (by kernel_rfl) (by kernel_rfl) ⟨⟨_, hF⟩, rfl⟩ ?_
  refine ord_seg 0 21 (by kernel_rfl) (fun d _ _ _ _ h => by cases d <;> exact h) ?_
  simp only [List.drop_zero, List.take_succ_cons, List.take_zero]
  repeat (go_big_quiet_step (fail))
  refine wpQuiet_nil ?_
  clear x1_ x2_ x3_ x4_
  refine wpOp_step rfl (fun K' hK => ?_)
  go_simp
  have g1 := (Gr.dr U).tr (Gr.al U.drew (.cells #[.int .i64 0, .int .i64 0, .int .i64 0, .int .i64 0] 23))
  obtain ⟨q0, q1, q2, q3, q4, q5⟩ := (hx.keep g1).c6
  refine hK _ _ ⟨⟨⟨_, q0, q1, q2, q3, q4⟩, rfl⟩, ?_⟩
  clear hK q0 q1 q2 q3 q4 q5
  refine wpOp_step rfl (fun K' hK => ?_)
  go_simp
  have gB := (Gr.al U (.cells #[.int .i64 (n : Int), .int .i64 r1, .int .i64 r2, .int .i64 ba] 23)).tr (Gr.dr _)
  have bB := (Box.new U [.int .i64 (n : Int), .int .i64 r1, .int .i64 r2, .int .i64 ba] 23 U.heap.size rfl).keep (Gr.dr _)
  obtain ⟨q0, q1, q2, q3, q4, q5⟩ := (hx.keep gB).c6
  refine hK _ _ ⟨⟨⟨_, q0, q1, q2, q3, q4⟩, rfl⟩, ?_⟩
  clear hK q0 q1 q2 q3 q4 q5
  show wpList _ _ _ (List.drop 23 _) _ _
  simp only [List.drop_succ_cons, List.drop_zero]
  go_upto_region 3 with fail
  obtain ⟨D, hD⟩ : ∃ D, D = U.heap.size := ⟨_, rfl⟩
  have hDne : ¬ D = w.heap.size + 1 := by have := hc.1.1; omega
  have hDne : ¬ D = w.heap.size + 1 := by have := hc.1.1; omega
  rw [← hD] at bB ⊢
  refine wp_abs (fun V => Gr w V ∧ Box V w.heap.size [.int .u8 r0, .int .u8 r1, .int .u8 r2, .int .u8 r3, .int .u8 of, .slice ta T.length tc] ∧ Own V (w.heap.size + 1) [.int .i64 0, .int .i64 0, .int .i64 0, .int .i64 0] ∧ Box V D [.int .i64 (n : Int), .int .i64 r1, .int .i64 r2, .int .i64 ba]) ⟨gg.tr gB, hx.keep gB, hc.keep gB, bB⟩ ?_
  clear gg hx hc bB gB g1 hD hF z0 z1 z2 z3 z4 z5 w1 w2 w3 w4 w5 w6 h0 h1 h2 h3 h4 hn hba hoff
  rintro V ⟨gg, hx, hc, hd⟩
  obtain ⟨i0, hi, hz0, hz1, hz2⟩ := info_parts infoInt
  have gV := (Gr.al V (.cells #[] 3)).tr (Gr.al _ (.cells #[] 3))
  have oA := owns_keep (owns_empty V 3 1) (Gr.al _ (.cells #[] 3))
  have oR := owns_base (owns_empty (V.alloc (.cells #[] 3)) 3 1) (show V.heap.size ≤ (V.alloc (.cells #[] 3)).heap.size by simp)
  go_wp2
  go_loopw [11, 9, 10] (fun i s t wr => Hid (∃ k : Nat, k ≤ n ∧ i = .int .i64 k ∧ Gr V wr ∧ wr.ownsRow V.heap.size 3 1 s k ((lotTru T k).flatMap encI) ∧ wr.ownsRow V.heap.size 3 1 t k ((lotRea T off k).flatMap encI) ∧ Apart s t)) (fun i s t wr => n - (intOf i).toNat)
  case atStart => exact Lib.hid ⟨0, Nat.zero_le _, rfl, gV, oA, by simpa [lotRea] using oR, Apart.lit (by simp)⟩
  case round =>
    clear gV oA oR
    obtain ⟨k, hk, rfl, gW, oA, oR, hap⟩ := hrel.out
    clear hrel
    by_cases hlt : k < n
    · obtain ⟨va, vb, hv⟩ : ∃ a b, lotT T k = ⟨a, b⟩ := ⟨_, _, rfl⟩
      obtain ⟨⟨a0, a1⟩, c0, c1⟩ : (0 ≤ va ∧ va ≤ 255) ∧ (0 ≤ vb ∧ vb ≤ 255) := by have := lotT_bd HT.out k; rw [hv] at this; exact this
      have hA : lotA T k = va := by unfold lotA; rw [hv]
      have hR : lotR T off k = max 0 (va + vb % (2 * off + 1) - off) := by unfold lotR; rw [hv]
      have HA := Lib.hid hA
      have HR := Lib.hid hR
      have gT := Gr.al wr (.cells #[.int .u8 100, .int .u8 0] 100)
      obtain ⟨q0, q1, q2, q3, q4, q5⟩ := (hx.keep (gW.tr gT)).c6
      clear q0 q1 q2 q3 q4 hA hR
      have k1 : k + 1 ≤ maxLen := by unfold maxLen; omega
      have k2 : (k + 1) * 8 ≤ 140737488355328 := by omega
      by_cases hT : k < T.length
      · obtain ⟨x, hx'⟩ : ∃ x, T[k]? = some x := ⟨T[k], by simp [hT]⟩
        obtain rfl : x = ⟨va, vb⟩ := by rw [← hv]; unfold lotT; rw [hx']
        obtain ⟨tb, tof, rfl, ht, e0, e1⟩ := Row2.get (rt.grow (gg.tr (gW.tr gT))) hx'
        dsimp only at e0 e1
        clear hx' hv
        go_upto_region 10 with fail
        refine wp_abs (fun X => Gr wr X ∧ Box X wr.heap.size [.int .u8 va, .int .u8 vb]) ⟨Gr.al wr _, Box.new wr [.int .u8 va, .int .u8 vb] 100 wr.heap.size rfl⟩ ?_
        clear q5
        clear e0 e1
        rintro X ⟨gX, hb⟩
        obtain ⟨p0, p1⟩ := hb.c2
        have y0 : IntKind.i64.wrap va = va := IntWalk.i64_in _ (by omega)
        go_upto_region 11 with (at_builtin; refine wpList_append_sep _ rfl _ _ 24 rfl V.heap.size 3 i0 (.int .i64 0) 1 8 Try.underlying24 hi hz0 hz1 hz2 rfl (by decide) _ _ _ rfl (owns_keep oA (gX.tr (Gr.al X (.cells #[.int .i64 va] 3)))) ⟨X.heap.size, 0, none⟩ 1 1 ([va].map (fun n => Value.int .i64 n)) rfl rfl (cell_news _ _ _) (ints_one _) k1 k2 ((gW.tr (gX.tr (Gr.al _ _))).size) _ _ _ (owns_keep oR (gX.tr (Gr.al X (.cells #[.int .i64 va] 3)))) hap ?_; intro sv Y hA2 hgr hR2 hap2)
        have hneR : ∀ r, u10.ownBlock = some r → V.heap.size ≤ r ∧ r < wr.heap.size := oR.lt
        have hne : ∀ r, u9.ownBlock = some r → V.heap.size ≤ r ∧ r < wr.heap.size := oA.lt
        have hbY := (hb.keep (Gr.al X (.cells #[.int .i64 va] 3))).grown hgr (fun r hr => by have := hne r hr; omega)
        have gY := (gW.tr (gX.tr (Gr.al X (.cells #[.int .i64 va] 3)))).grown' (owns_keep oA (gX.tr (Gr.al X _))) (Nat.le_refl _) hgr
        clear hgr p0 p1 y0
        refine wp_abs (fun Z => Gr V Z ∧ Box Z wr.heap.size [.int .u8 va, .int .u8 vb] ∧ Z.ownsRow V.heap.size 3 1 sv (k + 1) ((lotTru T (k + 1)).flatMap encI) ∧ Z.ownsRow V.heap.size 3 1 u10 k ((lotRea T off k).flatMap encI)) ⟨gY, hbY, (by rw [lotTru_succ, flat_snoc, HA.out]; exact hA2), hR2⟩ ?_
        clear gY hbY hA2 hR2 hne hap oA oR gX hb
        rintro Z ⟨gZ, hb, oA, oR⟩
        obtain ⟨e0, e1⟩ := hb.c2
        obtain ⟨m, hm⟩ : ∃ m, vb % (2 * off + 1) = m := ⟨_, rfl⟩
        have m0 : 0 ≤ m := by rw [← hm]; exact Int.emod_nonneg _ (by omega)
        have m1 : m < 2 * off + 1 := by rw [← hm]; exact Int.emod_lt_of_pos _ (by omega)
        have z1 : IntKind.i64.wrap (2 * off) = 2 * off := IntWalk.i64_in _ (by omega)
        have z2 : IntKind.i64.wrap (2 * off + 1) = 2 * off + 1 := IntWalk.i64_in _ (by omega)
        have z3 : ¬ (2 * off + 1 = 0) := by omega
        have z4 : vb.tmod (2 * off + 1) = m := by rw [Int.tmod_eq_emod_of_nonneg c0]; exact hm
        have z5 : IntKind.i64.wrap m = m := IntWalk.i64_in _ (by omega)
        have z6 : IntKind.i64.wrap (va + m) = va + m := IntWalk.i64_in _ (by omega)
        have z7 : IntKind.i64.wrap (va + m - off) = va + m - off := IntWalk.i64_in _ (by omega)
        have z8 : IntKind.i64.wrap va = va := IntWalk.i64_in _ (by omega)
        have z9 : IntKind.i64.wrap vb = vb := IntWalk.i64_in _ (by omega)
        rw [hm] at HR
        have hF : TestHeld wr.heap.size va vb Z.drew := ⟨e0, e1⟩
        haveI : Nonempty (AtW (TestHeld wr.heap.size va vb)) := ⟨⟨_, hF⟩⟩
        have x0_ : ∀ u : AtW (TestHeld wr.heap.size va vb), u.val.cell? ⟨wr.heap.size, 0, none⟩ = some (.int .u8 va) := fun u => u.property.1
        have x1_ : ∀ u : AtW (TestHeld wr.heap.size va vb), u.val.cell? ⟨wr.heap.size, 1, none⟩ = some (.int .u8 vb) := fun u => u.property.2
        clear e0 e1 hm
        refine wp_region_ord (fun w' => ∃ u : AtW (TestHeld wr.heap.size va vb), w' = u.val) 17 ((List.range' 0 14).map (fun i => (i, true)) ++ [(14, false), (15, false), (16, false)]) (by kernel_rfl) (by kernel_rfl) ⟨⟨_, hF⟩, rfl⟩ ?_
        refine ord_seg 0 14 (by kernel_rfl) (fun d _ _ _ _ h => by cases d <;> exact h) ?_
        simp only [List.drop_zero, List.take_succ_cons, List.take_zero]
        repeat (go_big_quiet_step (fail))
        refine wpQuiet_nil ?_
        clear x0_ x1_
        refine wpOp_step rfl (fun K' hK => ?_)
        go_simp
        refine hK _ _ ⟨⟨⟨_, hF⟩, rfl⟩, ?_⟩
        clear hK
        refine wpOp_step rfl (fun K' hK => ?_)
        go_simp
        have gA := Gr.al Z (.cells #[.int .i64 (max 0 (va + m - off))] 3)
        have gB := gA.tr (Gr.dr _)
        obtain ⟨e0, e1⟩ := (hb.keep gB).c2
        refine hK _ _ ⟨⟨⟨_, e0, e1⟩, rfl⟩, ?_⟩
        clear hK
        refine wpOp_step rfl (fun K' hK => ?_)
        refine step_append_lies _ (by rfl) _ _ 24 (by rfl) V.heap.size 3 i0 (.int .i64 0) 1 8 Try.underlying24 hi hz0 hz1 hz2 rfl (by decide) u10 k _ (by rfl) (owns_keep oR gB) ⟨Z.heap.size, 0, none⟩ 1 1 ([max 0 (va + m - off)].map (fun n => Value.int .i64 n)) (by rfl) (by rfl) (cell_news _ _ _) (ints_one _) (by omega) k1 k2 ?_ _ rfl ?_
        · exact (gZ.tr gB).size
        intro gb cap w4 hR4 hgr4 hat4 hlt4
        have hbY := (hb.keep gB).grown hgr4 (fun r hr => by have := hneR r hr; omega)
        have gY := (gZ.tr gB).grown' (owns_keep oR gB) (Nat.le_refl _) hgr4
        have oA4 := owns_apart (owns_keep oA gB) hgr4 hap2
        have hap4 := Apart.after (n := k + 1) (c := cap) hap2 hat4 (fun b hb => by have := (owns_keep oA gB).lt b hb; exact this.2)
        obtain ⟨e0, e1⟩ := hbY.c2
        refine hK _ _ ⟨⟨⟨_, e0, e1⟩, rfl⟩, ?_⟩
        clear hK hgr4 hat4 e0 e1 hbY
        show wpList _ _ _ (List.drop 17 _) _ _
        simp only [List.drop_succ_cons, List.drop_zero]
        clear z1 z2 z3 z4 z5 z6 z7 z8 z9
        go_wp2
        go_roundw
        case rel => exact Lib.hid ⟨k + 1, by omega, by go_num, gY, oA4, (by rw [lotRea_succ, flat_snoc, HR.out]; exact hR4), hap4⟩
        case measure => simp [intOf]; omega
      · obtain ⟨ea, eb⟩ : va = 100 ∧ vb = 0 := by
          have e1 : (⟨100, 0⟩ : V2) = ⟨va, vb⟩ := by rw [← hv]; unfold lotT; rw [List.getElem?_eq_none (by omega)]
          injection e1 with e2 e3
          exact ⟨e2.symm, e3.symm⟩
        clear hv
        go_upto_region 10 with fail
        refine wp_abs (fun X => Gr wr X ∧ Box X wr.heap.size [.int .u8 va, .int .u8 vb]) ⟨Gr.al wr _, (by rw [ea, eb]; exact Box.new wr [.int .u8 100, .int .u8 0] 100 wr.heap.size rfl)⟩ ?_
        clear q5
        clear ea eb
        rintro X ⟨gX, hb⟩
        obtain ⟨p0, p1⟩ := hb.c2
        have y0 : IntKind.i64.wrap va = va := IntWalk.i64_in _ (by omega)
        go_upto_region 11 with (at_builtin; refine wpList_append_sep _ rfl _ _ 24 rfl V.heap.size 3 i0 (.int .i64 0) 1 8 Try.underlying24 hi hz0 hz1 hz2 rfl (by decide) _ _ _ rfl (owns_keep oA (gX.tr (Gr.al X (.cells #[.int .i64 va] 3)))) ⟨X.heap.size, 0, none⟩ 1 1 ([va].map (fun n => Value.int .i64 n)) rfl rfl (cell_news _ _ _) (ints_one _) k1 k2 ((gW.tr (gX.tr (Gr.al _ _))).size) _ _ _ (owns_keep oR (gX.tr (Gr.al X (.cells #[.int .i64 va] 3)))) hap ?_; intro sv Y hA2 hgr hR2 hap2)
        have hneR : ∀ r, u10.ownBlock = some r → V.heap.size ≤ r ∧ r < wr.heap.size := oR.lt
        have hne : ∀ r, u9.ownBlock = some r → V.heap.size ≤ r ∧ r < wr.heap.size := oA.lt
        have hbY := (hb.keep (Gr.al X (.cells #[.int .i64 va] 3))).grown hgr (fun r hr => by have := hne r hr; omega)
        have gY := (gW.tr (gX.tr (Gr.al X (.cells #[.int .i64 va] 3)))).grown' (owns_keep oA (gX.tr (Gr.al X _))) (Nat.le_refl _) hgr
        clear hgr p0 p1 y0
        refine wp_abs (fun Z => Gr V Z ∧ Box Z wr.heap.size [.int .u8 va, .int .u8 vb] ∧ Z.ownsRow V.heap.size 3 1 sv (k + 1) ((lotTru T (k + 1)).flatMap encI) ∧ Z.ownsRow V.heap.size 3 1 u10 k ((lotRea T off k).flatMap encI)) ⟨gY, hbY, (by rw [lotTru_succ, flat_snoc, HA.out]; exact hA2), hR2⟩ ?_
        clear gY hbY hA2 hR2 hne hap oA oR gX hb
        rintro Z ⟨gZ, hb, oA, oR⟩
        obtain ⟨e0, e1⟩ := hb.c2
        obtain ⟨m, hm⟩ : ∃ m, vb % (2 * off + 1) = m := ⟨_, rfl⟩
        have m0 : 0 ≤ m := by rw [← hm]; exact Int.emod_nonneg _ (by omega)
        have m1 : m < 2 * off + 1 := by rw [← hm]; exact Int.emod_lt_of_pos _ (by omega)
        have z1 : IntKind.i64.wrap (2 * off) = 2 * off := IntWalk.i64_in _ (by omega)
        have z2 : IntKind.i64.wrap (2 * off + 1) = 2 * off + 1 := IntWalk.i64_in _ (by omega)
        have z3 : ¬ (2 * off + 1 = 0) := by omega
        have z4 : vb.tmod (2 * off + 1) = m := by rw [Int.tmod_eq_emod_of_nonneg c0]; exact hm
        have z5 : IntKind.i64.wrap m = m := IntWalk.i64_in _ (by omega)
        have z6 : IntKind.i64.wrap (va + m) = va + m := IntWalk.i64_in _ (by omega)
        have z7 : IntKind.i64.wrap (va + m - off) = va + m - off := IntWalk.i64_in _ (by omega)
        have z8 : IntKind.i64.wrap va = va := IntWalk.i64_in _ (by omega)
        have z9 : IntKind.i64.wrap vb = vb := IntWalk.i64_in _ (by omega)
        rw [hm] at HR
        have hF : TestHeld wr.heap.size va vb Z.drew := ⟨e0, e1⟩
        haveI : Nonempty (AtW (TestHeld wr.heap.size va vb)) := ⟨⟨_, hF⟩⟩
        have x0_ : ∀ u : AtW (TestHeld wr.heap.size va vb), u.val.cell? ⟨wr.heap.size, 0, none⟩ = some (.int .u8 va) := fun u => u.property.1
        have x1_ : ∀ u : AtW (TestHeld wr.heap.size va vb), u.val.cell? ⟨wr.heap.size, 1, none⟩ = some (.int .u8 vb) := fun u => u.property.2
        clear e0 e1 hm
        refine wp_region_ord (fun w' => ∃ u : AtW (TestHeld wr.heap.size va vb), w' = u.val) 17 ((List.range' 0 14).map (fun i => (i, true)) ++ [(14, false), (15, false), (16, false)]) (by kernel_rfl) (by kernel_rfl) ⟨⟨_, hF⟩, rfl⟩ ?_
        refine ord_seg 0 14 (by kernel_rfl) (fun d _ _ _ _ h => by cases d <;> exact h) ?_
        simp only [List.drop_zero, List.take_succ_cons, List.take_zero]
        repeat (go_big_quiet_step (fail))
        refine wpQuiet_nil ?_
        clear x0_ x1_
        refine wpOp_step rfl (fun K' hK => ?_)
        go_simp
        refine hK _ _ ⟨⟨⟨_, hF⟩, rfl⟩, ?_⟩
        clear hK
        refine wpOp_step rfl (fun K' hK => ?_)
        go_simp
        have gA := Gr.al Z (.cells #[.int .i64 (max 0 (va + m - off))] 3)
        have gB := gA.tr (Gr.dr _)
        obtain ⟨e0, e1⟩ := (hb.keep gB).c2
        refine hK _ _ ⟨⟨⟨_, e0, e1⟩, rfl⟩, ?_⟩
        clear hK
        refine wpOp_step rfl (fun K' hK => ?_)
        refine step_append_lies _ (by rfl) _ _ 24 (by rfl) V.heap.size 3 i0 (.int .i64 0) 1 8 Try.underlying24 hi hz0 hz1 hz2 rfl (by decide) u10 k _ (by rfl) (owns_keep oR gB) ⟨Z.heap.size, 0, none⟩ 1 1 ([max 0 (va + m - off)].map (fun n => Value.int .i64 n)) (by rfl) (by rfl) (cell_news _ _ _) (ints_one _) (by omega) k1 k2 ?_ _ rfl ?_
        · exact (gZ.tr gB).size
        intro gb cap w4 hR4 hgr4 hat4 hlt4
        have hbY := (hb.keep gB).grown hgr4 (fun r hr => by have := hneR r hr; omega)
        have gY := (gZ.tr gB).grown' (owns_keep oR gB) (Nat.le_refl _) hgr4
        have oA4 := owns_apart (owns_keep oA gB) hgr4 hap2
        have hap4 := Apart.after (n := k + 1) (c := cap) hap2 hat4 (fun b hb => by have := (owns_keep oA gB).lt b hb; exact this.2)
        obtain ⟨e0, e1⟩ := hbY.c2
        refine hK _ _ ⟨⟨⟨_, e0, e1⟩, rfl⟩, ?_⟩
        clear hK hgr4 hat4 e0 e1 hbY
        show wpList _ _ _ (List.drop 17 _) _ _
        simp only [List.drop_succ_cons, List.drop_zero]
        clear z1 z2 z3 z4 z5 z6 z7 z8 z9
        go_wp2
        go_roundw
        case rel => exact Lib.hid ⟨k + 1, by omega, by go_num, gY, oA4, (by rw [lotRea_succ, flat_snoc, HR.out]; exact hR4), hap4⟩
        case measure => simp [intOf]; omega
    · obtain rfl : k = n := by omega
      have h1 := lotTru_len T k
      have h2 := lotRea_len T off k
      obtain ⟨A, c, hvA, rA, _, hcA⟩ := owns_row_cap (enc := encI) (l := lotTru T k) (fun _ => rfl) (by omega) (by rw [h1]; exact oA)
      obtain ⟨R, d, hvR, rR, _, hcR⟩ := owns_row_cap (enc := encI) (l := lotRea T off k) (fun _ => rfl) (by omega) (by rw [h2]; exact oR)
      have nA : NewAt V.heap.size A := fun b o x e => by
        have := oA.lt b (by rw [hvA, e]; rfl)
        omega
      have nR : NewAt V.heap.size R := fun b o x e => by
        have := oR.lt b (by rw [hvR, e]; rfl)
        omega
      obtain ⟨Ab, Ao, rfl, _⟩ := rA.addr (by omega)
      obtain ⟨Rb, Ro, rfl, _⟩ := rR.addr (by omega)
      rw [h1] at hvA hcA
      rw [h2] at hvR hcR
      subst hvA
      subst hvR
      obtain ⟨d0, d1, d2, d3⟩ := (hd.keep gW).c4
      obtain ⟨u0, u1, u2, u3⟩ := (hc.keep gW).1.c4
      have y0 := (hc.keep gW).2 0
      have y1 := (hc.keep gW).2 1
      have y2 := (hc.keep gW).2 2
      have y3 := (hc.keep gW).2 3
      have hVs : w.heap.size + 1 < V.heap.size := hc.1.1
      have hDn : ¬ D = w.heap.size + 1 := hDne
      have hDn' : ¬ w.heap.size + 1 = D := fun h => hDne h.symm
      clear oA oR hap
      go_wp2
      refine bodyPost_ret (v := .tuple #[.agg #[.int .i64 (k : Int), .int .i64 r1, .int .i64 r2, .int .i64 ba], .int .i64 off, .slice (some ⟨Ab, Ao, none⟩) k c, .slice (some ⟨Rb, Ro, none⟩) k d]) (by simp [results, Try.results51, go_sem, u0, u1, u2, u3]) rfl ⟨Ab, Ao, Rb, Ro, c, d, rfl, ?_, ?_, hcA, hcR, ?_⟩
      · exact ((((rA.other nA (by omega)).other nA (by omega)).other nA (by omega)).other nA (by omega))
      · exact ((((rR.other nR (by omega)).other nR (by omega)).other nR (by omega)).other nR (by omega))
      · exact ((((gg.tr gW).setCell (by simp) _).setCell (by simp) _).setCell (by simp) _).setCell (by simp) _

end Go.Proofs.Ytcdilmagcdbogaa
