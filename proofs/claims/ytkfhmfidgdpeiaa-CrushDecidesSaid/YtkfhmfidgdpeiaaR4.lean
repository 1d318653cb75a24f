/- A region that draws its order: many operations that only read, one operation that does not wait for them (an allocation), then stores: one walk of the reads serves every order. -/
import Derived.Test.YtkfhmfidgdpeiaaR1
import Derived.Test.YtkfhmfidgdpeiaaQa
import Derived.BigQuiet
namespace Go.Proofs.Ytkfhmfidgdpeiaa
set_option linter.unusedVariables false
set_option linter.unusedSimpArgs false
open Go.RowKit

/-- The worlds of which F holds. -/
structure AtW (F : World → Prop) where
  val : World
  property : F val

theorem sem_value {P : Program} {w w' : World} {m : Sem Value} {n : Next} (h : (m >>= fun x => pure (Next.value x) : Sem Next).run P w = .ok n w') : ∃ v, n = .value v := by
  cases hm : m.run P w with
  | ok x w1 =>
    simp [hm, go_sem] at h
    exact ⟨_, h.1.symm⟩
  | halt x w1 => simp [hm, go_sem] at h

def plainB (o : Oper) : Bool := match o.op with
  | .move _ | .assign _ | .build _ _ | .load _ _ | .binOp _ _ _ _ _ | .unOp _ _ _ | .convert _ _ _ | .fieldAddr _ _ _ | .field _ _ _ | .indexAddr _ _ _ | .index _ _ _ | .extract _ _ => true
  | _ => false

theorem plain_value {P : Program} {ρ : Operand → Value} {o : Oper} (hp : plainB o = true) {w w' : World} {n : Next} (h : (execOp ρ o).run P w = .ok n w') : ∃ v, n = .value v := by
  unfold plainB at hp
  unfold execOp at h
  split at hp <;> rename_i e <;> try (rw [e] at h; exact sem_value h)
  · rw [e] at h
    simp [go_sem] at h
    exact ⟨_, h.1.symm⟩
  · rw [e] at h
    simp [go_sem] at h
    exact ⟨_, h.1.symm⟩
  · cases hp

section
variable {P : Program} {ops : Array Oper} {Q : Exit → Act → World → Prop} {S : World → Prop}

theorem ord_of_quiet {L : Act → World → Prop} {Q0 : Act → Prop} {r : List (Nat × Bool)} (hQ : ∀ d v c a w, Q (.panic c) (Act.put a d v) w → Q (.panic c) a w) (w : World) :
    ∀ (l : List Oper) (j : Nat) (a : Act), (∀ k o, l[k]? = some o → ops[j + k]? = some o) → l.all plainB = true → wpQuiet P ops S Q0 l a → (∀ a', Q0 a' → wpOrd P ops Q S L r a' w) →
      wpOrd P ops Q S L ((List.range' j l.length).map (fun i => (i, true)) ++ r) a w
  | [], j, a, _, _, h, hr => hr a h
  | o :: rest, j, a, hl, hp, h, hr => by
    simp only [List.all_cons, Bool.and_eq_true] at hp
    have ho : ops[j]? = some o := hl 0 o rfl
    have hl' : ∀ k o', rest[k]? = some o' → ops[j + 1 + k]? = some o' := fun k o' hk => by
      have := hl (k + 1) o' (by simpa using hk)
      rwa [show j + (k + 1) = j + 1 + k by omega] at this
    show ∃ o v, ops[j]? = some o ∧ YieldsIf P ops S o v a ∧ _ ∧ wpOrd P ops Q S L ((List.range' (j + 1) rest.length).map (fun i => (i, true)) ++ r) (a.put o.dst v) w
    unfold wpQuiet at h
    by_cases hw : Region.wanted o (yielded ops a.tmps) = true
    · rw [if_pos hw] at h
      obtain ⟨v, h1, h2⟩ := h
      refine ⟨o, v, ho, Or.inl ⟨hw, fun w1 hS => ?_⟩, fun c a w => hQ _ _ c a w, ord_of_quiet hQ w rest (j + 1) _ hl' hp.2 h2 hr⟩
      have h3 := h1 w1 hS
      unfold Oper.quietAt at h3
      cases hrun : (execOp a.eval o).run P w1 with
      | halt x w2 => rw [hrun] at h3; exact h3.elim
      | ok n w2 =>
        obtain ⟨u, rfl⟩ := plain_value hp.1 hrun
        rw [hrun] at h3
        obtain ⟨rfl, rfl⟩ := h3
        rfl
    · rw [if_neg hw] at h
      exact ⟨o, undef, ho, Or.inr ⟨by simpa using hw, rfl⟩, fun c a w => hQ _ _ c a w, ord_of_quiet hQ w rest (j + 1) _ hl' hp.2 h hr⟩

/-- A stretch of reads, walked as a quiet region is. -/
theorem ord_seg {lst : List Oper} {L : Act → World → Prop} {r : List (Nat × Bool)} {w : World} {a : Act} (j m : Nat) (hp : (decide (j + m ≤ lst.length) && ((lst.drop j).take m).all plainB) = true)
    (hQ : ∀ d v c a w, Q (.panic c) (Act.put a d v) w → Q (.panic c) a w) (h : wpQuiet P lst.toArray S (fun a' => wpOrd P lst.toArray Q S L r a' w) ((lst.drop j).take m) a) :
    wpOrd P lst.toArray Q S L ((List.range' j m).map (fun i => (i, true)) ++ r) a w := by
  simp only [Bool.and_eq_true, decide_eq_true_eq] at hp
  have hl : ((lst.drop j).take m).length = m := by simp; omega
  have := ord_of_quiet (Q := Q) (L := L) (r := r) hQ w ((lst.drop j).take m) j a (fun k o hk => by
    have hk' : k < m := by
      have := (List.getElem?_eq_some_iff.1 hk).1
      omega
    rw [List.getElem?_take_of_lt hk', List.getElem?_drop] at hk
    simpa using hk) hp.2 h (fun a' h' => h')
  rwa [hl] at this

theorem wp_region_reads {id : Nat} {a : Act} {w : World} {l : List Oper} (S : World → Prop) (n : Nat) (hm : P.follows .mixedOrders = true)
    (hB : (Region.noSelect l.toArray && decide (n + 1 < l.toArray.size) && Region.sinkB .any l.toArray (n + 1) && Region.chainB .any l.toArray (n + 1) && (l.take n).all plainB && ordB .any l.toArray (n + 1) ((List.range' 0 n).map (fun i => (i, true)) ++ [(n, false)]) (Array.replicate l.toArray.size false)) = true)
    (hQ : ∀ d v c a w, Q (.panic c) (Act.put a d v) w → Q (.panic c) a w)
    (hS : S w.drew) (h : wpQuiet P l.toArray S (fun a' => wpOp P l.toArray Q n (fun a' w' => S w' ∧ wpList P l.toArray Q (l.drop (n + 1)) a' w') a' w.drew) (l.take n) a) : (Code.region id l.toArray true).wp P Q a w := by
  simp only [Bool.and_eq_true, decide_eq_true_eq] at hB
  obtain ⟨⟨⟨⟨⟨hsel, hn⟩, hs⟩, hc⟩, hpl⟩, hord⟩ := hB
  have hn' : n + 1 < l.length := by simpa using hn
  have hlen : (l.take n).length = n := by simp; omega
  refine wp_region_ord S (n + 1) ((List.range' 0 n).map (fun i => (i, true)) ++ [(n, false)]) hm (by simp only [Bool.and_eq_true, decide_eq_true_eq]; exact ⟨⟨⟨⟨⟨hsel, hn⟩, hs⟩, hc⟩, by simp⟩, hord⟩) hS ?_
  have := ord_of_quiet (Q := Q) (L := fun a' w' => wpList P l.toArray Q (l.drop (n + 1)) a' w') (r := [(n, false)]) hQ w.drew (l.take n) 0 a (fun k o hk => by
    rw [Nat.zero_add]
    have hk' : k < n := by
      have := (List.getElem?_eq_some_iff.1 hk).1
      omega
    simpa [List.getElem?_take, hk'] using hk) hpl h (fun a' h' => h')
  rwa [hlen] at this

end

end Go.Proofs.Ytkfhmfidgdpeiaa
