/- A law's end: it returned true and the world only grew. And: what an argument is that is made of integers of one kind. -/
import Derived.ProofKit
import Derived.OpenShut
import Derived.Test.YtkfhmfidgdpeiaaP1
import Derived.ChangeSame
import Derived.Carry
namespace Go.Proofs.Ytkfhmfidgdpeiaa
set_option linter.unusedVariables false
set_option linter.unusedSimpArgs false
open Go.RowKit Go.ChangeShapes

section
variable {H : Type} {enc : TypeId × Value → H} {P : Program} {W W' : World}

theorem trodAll_stays (hl : laidOutB P = true) (g : Gr W W') {sp : Nat → Bool} : ∀ (ts : List TypeId) (vs : List Value) (ds : List (DataW H)) (ps : List MemPlace), (∀ t ∈ ts, P.readableRec t = true ∧ t < P.types.size) →
    DataW.TrodAll enc P W 0 (fun _ => true) true ts vs ds ps → (∀ p ∈ ps, p.block < W.heap.size) → (∀ p ∈ ps, sp p.block = true) → DataW.TrodAll enc P W' 0 sp true ts vs ds ps
  | [], [], [], _, _, h, _, _ => h
  | t :: ts, v :: vs, d :: ds, ps, ht, h, hlt, hsp => by
    obtain ⟨p, q, h1, h2, rfl⟩ := h
    exact ⟨p, q, WideElems.Trod_stays hl (ht t (by simp)).1 (ht t (by simp)).2 h1 (fun x hx => g.same (hlt x (by simp [hx]))) (fun x hx => hsp x (by simp [hx])),
      trodAll_stays hl g ts vs ds q (fun u hu => ht u (by simp [hu])) h2 (fun x hx => hlt x (by simp [hx])) (fun x hx => hsp x (by simp [hx])), rfl⟩

/-- A law that returned true in a world that only grew, its arguments as they were. -/
theorem law_true {f : Func} {s : ChangeSpec} {bt : TypeId} {args : Array Value} {ds : List (DataW H)} {p : List MemPlace}
    (hl : laidOutB P = true) (hpt : ∀ t ∈ f.params.toList, P.readableRec t = true ∧ t < P.types.size) (hbt : P.underlying bt = some .bool) (hrt : f.resultTypes = #[bt]) (hsv : s.vars = [])
    (hs : s.fn H ds = { results := [.lit (.bool true)], args := ds })
    (hW : DataW.Whole enc P f.params.toList s.vars false W args.toList ds [] p) (g : Gr W W') :
    s.post enc P f false true false false W args (.bool true) W' := by
  have hW0 := hW
  obtain ⟨pa, pv, hA, hV, hp, hfz, hnd⟩ := hW0
  rw [hsv] at hV
  have hpv : pv = [] := hV
  subst hpv
  rw [List.append_nil] at hp
  subst hp
  have hold : ∀ x ∈ p, x.block < W.heap.size := fun x hx => hW.lt x hx
  have hargs : ∀ sp : Nat → Bool, (∀ x ∈ p, sp x.block = true) → DataW.TrodAll enc P W' 0 sp true f.params.toList args.toList ds p := fun sp hsp => trodAll_stays hl g _ _ _ _ hpt hA hold hsp
  have hres : ∀ (b : Nat) (sp : Nat → Bool) (hd : Bool), DataW.TrodAll enc P W' b sp hd f.resultTypes.toList ((Value.bool true).resultList f.resultTypes.size) [.lit (.bool true)] [] := fun b sp hd => by
    rw [hrt]
    exact trodAll_cons_mk (shut_bool hbt _) trodAll_mk0
  have hok : ∀ (j : Nat) (t : TypeId) (r : Value), f.resultTypes[j]? = some t → ((Value.bool true).resultList f.resultTypes.size)[j]? = some r → Value.okWide P W' .any 0 t r := ok_one hrt rfl (okWide_bool_mk hbt _)
  have es : s.fn H (ds ++ []) = { results := [.lit (.bool true)], args := ds } := by rw [List.append_nil]; exact hs
  have hsp0 : ∀ x ∈ p, (fun b => decide (b < W.heap.size)) x.block = true := fun x hx => by simpa using hold x hx
  refine ⟨ds, [], p, [], p, [], hW, ?_, ?_, ?_, World.keptBut_mono (fun x hx => hx.elim) (g.frame (fun _ => False)), fun _ => ?_⟩
  · rw [es]; exact hres _ _ _
  · rw [es]; exact hargs _ hsp0
  · rw [es, hsv]; rfl
  · refine ⟨hok, [.lit (.bool true)] ++ ds, [], ([] ++ p) ++ [], ⟨[] ++ p, [], trodAll_append (hargs (fun _ => true) (fun _ _ => rfl)) (hres _ _ _), ?_, rfl, ?_, ?_⟩, ?_⟩
    · rw [hsv]; rfl
    · intro b off hx
      have hx' : MemPlace.cell b off ∈ p := by simpa using hx
      have hb : b < W.heap.size := hold _ hx'
      rw [g.frozen (p := ⟨b, off, none⟩) hb]
      exact hfz b off hx'
    · intro ha
      cases ha
    · intro x hx _
      simpa using hx

/-- Made of integers of kind k alone, cell by cell: by looking. -/
def allK (P : Program) (k : IntKind) : Nat → TypeId → Bool
  | 0, _ => false
  | f + 1, t => match P.underlying t with
    | some (.int k') => decide (k' = k) && decide (P.cellsOf t = 1)
    | some (.struct fs) => fs.toList.all (fun x => allK P k f x.type) && (List.range (P.cellsOf t)).all fun i => fs.toList.any fun x => decide (x.offset ≤ i) && decide (i < x.offset + P.cellsOf x.type)
    | some (.array n e) => allK P k f e && (List.range (P.cellsOf t)).all fun i => (List.range n).any fun j => decide (j * P.cellsOf e ≤ i) && decide (i < j * P.cellsOf e + P.cellsOf e)
    | _ => false

theorem piece {cs : List Value} {o n i : Nat} (h1 : o ≤ i) (h2 : i < o + n) : ((cs.drop o).take n)[i - o]? = cs[i]? := by
  rw [List.getElem?_take_of_lt (by omega), List.getElem?_drop, show o + (i - o) = i by omega]

theorem mapM_at {α β : Type} {f : α → Option β} : ∀ (l : List α) (ys : List β), l.mapM f = some ys → ∀ a ∈ l, ∃ y, f a = some y
  | [], _, _, a, ha => by cases ha
  | b :: l, ys, h, a, ha => by
    rw [List.mapM_cons] at h
    cases h1 : f b with
    | none => simp [h1] at h
    | some y =>
      cases h2 : l.mapM f with
      | none => simp [h1, h2] at h
      | some zs =>
        rcases List.mem_cons.1 ha with rfl | ha
        · exact ⟨y, h1⟩
        · exact mapM_at l zs h2 a ha

theorem int_open {k : IntKind} {base : Nat} {sp : Nat → Bool} {held : Bool} {t : TypeId} (hu : P.underlying t = some (.int k)) {fuel : Nat} {cs : List Value} {x : DataW H × List MemPlace} (hx : DataW.trod enc P W base sp held fuel t cs = some x) :
    ∃ n, cs = [.int k n] ∧ (Lit.int k n).wf = true := by
  obtain ⟨n, e, _, hw⟩ := DataW.trod_int hu hx
  exact ⟨n, e, hw⟩

theorem allK_open {k : IntKind} {base : Nat} {sp : Nat → Bool} {held : Bool} : ∀ (f : Nat) (t : TypeId), allK P k f t = true → ∀ (fuel : Nat) (cs : List Value) (x : DataW H × List MemPlace), DataW.trod enc P W base sp held fuel t cs = some x →
    cs.length = P.cellsOf t ∧ ∀ i, i < cs.length → ∃ n, cs[i]? = some (.int k n) ∧ (Lit.int k n).wf = true
  | 0, _, h, _, _, _, _ => by simp [allK] at h
  | f + 1, t, h, 0, cs, x, hx => by simp [DataW.trod] at hx
  | f + 1, t, h, fuel + 1, cs, x, hx => by
    unfold allK at h
    split at h
    · rename_i k' hu
      simp only [Bool.and_eq_true, decide_eq_true_eq] at h
      obtain ⟨rfl, hc⟩ := h
      obtain ⟨n, rfl, hw⟩ := int_open hu hx
      refine ⟨by rw [hc]; rfl, fun i hi => ?_⟩
      obtain rfl : i = 0 := by simpa using hi
      exact ⟨n, rfl, hw⟩
    · rename_i fs hu
      simp only [Bool.and_eq_true] at h
      obtain ⟨ha, hcov⟩ := h
      unfold DataW.trod at hx
      rw [hu] at hx
      simp only at hx
      split at hx
      case isFalse => cases hx
      rename_i hl
      refine ⟨hl, fun i hi => ?_⟩
      obtain ⟨xs, hxs, _⟩ := Option.map_eq_some_iff.1 hx
      have hci := List.all_eq_true.1 hcov i (by simp; omega)
      obtain ⟨fd, hfd, hin⟩ := List.any_eq_true.1 hci
      simp only [Bool.and_eq_true, decide_eq_true_eq] at hin
      obtain ⟨y, hy⟩ := mapM_at _ _ hxs fd hfd
      obtain ⟨hl', hat⟩ := allK_open f fd.type (List.all_eq_true.1 ha fd hfd) fuel _ y hy
      obtain ⟨n, hn, hw⟩ := hat (i - fd.offset) (by rw [hl']; omega)
      rw [piece hin.1 hin.2] at hn
      exact ⟨n, hn, hw⟩
    · rename_i m e hu
      simp only [Bool.and_eq_true] at h
      obtain ⟨ha, hcov⟩ := h
      unfold DataW.trod at hx
      rw [hu] at hx
      simp only at hx
      split at hx
      case isFalse => cases hx
      rename_i hl
      refine ⟨hl, fun i hi => ?_⟩
      obtain ⟨xs, hxs, _⟩ := Option.map_eq_some_iff.1 hx
      have hci := List.all_eq_true.1 hcov i (by simp; omega)
      obtain ⟨j, hj, hin⟩ := List.any_eq_true.1 hci
      simp only [Bool.and_eq_true, decide_eq_true_eq] at hin
      obtain ⟨y, hy⟩ := mapM_at _ _ hxs j hj
      obtain ⟨hl', hat⟩ := allK_open f e ha fuel _ y hy
      obtain ⟨n, hn, hw⟩ := hat (i - j * P.cellsOf e) (by rw [hl']; omega)
      rw [piece hin.1 hin.2] at hn
      exact ⟨n, hn, hw⟩
    · cases h

theorem ints_of {k : IntKind} : ∀ (cs : List Value), (∀ i, i < cs.length → ∃ n, cs[i]? = some (.int k n) ∧ (Lit.int k n).wf = true) → ∃ l : List Int, cs = l.map (Value.int k) ∧ ∀ n ∈ l, (Lit.int k n).wf = true
  | [], _ => ⟨[], rfl, by simp⟩
  | c :: cs, h => by
    obtain ⟨n, hn, hw⟩ := h 0 (by simp)
    obtain ⟨l, rfl, hl⟩ := ints_of cs (fun i hi => by simpa using h (i + 1) (by simpa using hi))
    simp only [List.getElem?_cons_zero, Option.some.injEq] at hn
    subst hn
    refine ⟨n :: l, rfl, fun m hm => ?_⟩
    rcases List.mem_cons.1 hm with rfl | hm
    · exact hw
    · exact hl m hm

/-- A struct or array by value, of integers of one kind: its integers. -/
theorem agg_ints {k : IntKind} {base : Nat} {sp : Nat → Bool} {held : Bool} {f : Nat} {t : TypeId} (ha : allK P k f t = true) (hc : P.cellsOf t ≠ 1) {v : Value} {d : DataW H} {ps : List MemPlace} (h : DataW.Trod enc P W base sp held t v d ps) :
    ∃ l : List Int, v = .agg (l.map (Value.int k)).toArray ∧ l.length = P.cellsOf t ∧ ∀ n ∈ l, (Lit.int k n).wf = true := by
  obtain ⟨fuel, hf⟩ := h
  obtain ⟨hl, hat⟩ := allK_open f t ha fuel _ _ hf
  obtain ⟨l, hcs, hw⟩ := ints_of _ hat
  have hlen : l.length = P.cellsOf t := by rw [← hl, hcs]; simp
  refine ⟨l, ?_, hlen, hw⟩
  unfold Value.cells at hcs hl
  split at hcs
  · rename_i cs
    rw [← hcs]
  · rename_i hna
    exfalso
    apply hc
    rw [← hlen]
    have := congrArg List.length hcs
    simpa using this.symm

/-- A slice of bytes that came in. -/
theorem row_bytes {e : TypeId} {t : TypeId} {r : Reach} {b0 : Nat} (ht : P.underlying t = some (.slice e)) (he : P.underlying e = some (.int .u8)) (hc : P.cellsOf e = 1) {v : Value} {d : DataW H} {ps : List MemPlace} (hval : Value.okWide P W r b0 t v)
    (h : DataW.Trod enc P W 0 (fun _ => true) true t v d ps) :
    ∃ (a : Option Addr) (l : List Int) (cap : Nat), v = .slice a l.length cap ∧ URow W a l ∧ Bytes l := by
  obtain ⟨fuel, hf⟩ := h
  obtain ⟨a0, len0, cap0, rfl⟩ := Go.WideShapes.okWide_slice ht hval
  rcases open_ints ht he hc hf with ⟨hcs, _⟩ | ⟨a, len, cap, zs, hcs, _, hle, hmax, hlen, _, hcell, hwf⟩
  · have hcs' : [Value.slice a0 len0 cap0] = [.slice none 0 0] := by simpa [Value.cells] using hcs
    cases hcs'
    exact ⟨none, [], 0, rfl, RowOf.nil, fun x hx => by cases hx⟩
  · have hcs' : [Value.slice a0 len0 cap0] = [.slice (some a) len cap] := by simpa [Value.cells] using hcs
    cases hcs'
    simp only [if_true] at hlen
    have hl : (zs.take len0).length = len0 := by simp; omega
    refine ⟨some a, zs.take len0, cap0, by rw [hl], ⟨by rw [hl]; exact Nat.le_trans hle hmax, fun j x hx => ?_⟩, fun x hx => bounds_u8 (hwf x (List.mem_of_mem_take hx))⟩
    have hj : j < len0 := by
      have := (List.getElem?_eq_some_iff.1 hx).1
      omega
    have hz : zs[j]? = some x := by
      rw [List.getElem?_take_of_lt hj] at hx
      exact hx
    have h0 := hcell 0 (by omega)
    rw [show a.add 0 = a by simp [Addr.add]] at h0
    have hb := World.block_lt_of_cell? W _ h0
    have hs : a.spot = none := by
      cases hsp : a.spot with
      | none => rfl
      | some q =>
        exfalso
        unfold World.cell? at h0
        split at h0
        · simp [hsp] at h0
        · cases h0
    obtain ⟨b, off, sp⟩ := a
    simp only at hs
    subst hs
    have h1 := hcell j (by omega)
    have e1 : zs.getD j 0 = x := by simp [hz]
    rw [e1, show (Addr.mk b off none).add j = ⟨b, off + j, none⟩ by unfold Addr.add; split <;> simp_all] at h1
    refine ⟨b, off, rfl, hb, fun i v hv => ?_⟩
    have hi : i = 0 := by
      have := (List.getElem?_eq_some_iff.1 hv).1
      simpa [encU] using this
    subst hi
    simp [encU] at hv
    subst hv
    simpa using h1

end

end Go.Proofs.Ytkfhmfidgdpeiaa
