/- Contracts of pubMade, pubSingle, pubDouble. Contract of pubOwn: a copy of a store. A region that draws its order: many operations that only read, one operation that does not wait for them (an allocation), then stores: one walk of the reads serves every order. Contract of pubStore. The contract of armStore. (Made by gen_arm1.py.) armMake: what it makes, and what stays while it works. Contract of lay: a sheet's parts and what is used of each paper. Contracts of total: what all papers of a board have together. Contracts of the closures of a sheet, and of lowest. Contracts of a sheet's weight, strength, cost and moist weight. Contracts of a sheet's thickness and of measure. The board that armMake makes of armStore's store has no error; its caliper. Contract of a sheet's measure. Contracts of Weigh, Strength, Cost. Contract of Measure. Contracts of Strength and Cost. A board from its other side: it is valid, as thick and as strong. Contract of pubCaliper. The caliper of a board in a truth by bytes lies between the ends of its span. A box with more around it, a greater edge or caliper is not weaker. P1 (tops) P6 (tops) Contracts of pubBoard. The contract of armBoard: the document's example of chapter 1. E0 (tops) P2 (tops) P3 (tops) -/
import Derived.Test.YtcdilmagcdbogaaQE10a
import Derived.Deep.AppendLies
import Derived.Deep.RegionHeld3
import Derived.BigQuiet
import Derived.Deep.QuietTactic
import Derived.Deep.CutRange
import Derived.Deep.DeepCutAuto
import Derived.Test.YtcdilmagcdbogaaQE10b
import Derived.Deep.MidRow
import Derived.Deep.RegionWith
namespace Go.Proofs.Ytcdilmagcdbogaa
set_option linter.unusedVariables false
set_option linter.unusedSimpArgs false
open Go.RowKit

/-- A board is handed back. -/
def MadePost (mp mf : List Int) (w : World) (e : Ending) (w' : World) : Prop := ∃ a ac g gc, e = .returned (.agg #[.slice a mp.length ac, .slice g mf.length gc]) ∧ Gr w w' ∧ IRow w' a mp ∧ IRow w' g mf ∧ NewAt w.heap.size a ∧ NewAt w.heap.size g

/-- A blank is handed back. -/
def BlankPost (tab hei slo : Int) (pan top bot : List Int) (opn : Bool) (w : World) (e : Ending) (w' : World) : Prop :=
  ∃ pa pc ta tc ba bc, e = .returned (.agg #[.int .i64 tab, .slice pa pan.length pc, .int .i64 hei, .slice ta top.length tc, .slice ba bot.length bc, .int .i64 slo, .bool opn]) ∧ Gr w w' ∧ IRow w' pa pan ∧ IRow w' ta top ∧ IRow w' ba bot ∧ NewAt w.heap.size pa ∧ NewAt w.heap.size ta ∧ NewAt w.heap.size ba

end Go.Proofs.Ytcdilmagcdbogaa

namespace Go.Proofs.Ytcdilmagcdbogaa
set_option linter.unusedVariables false
set_option linter.unusedSimpArgs false
open Go.RowKit

theorem infoPaper : (Try.prog.info? 174).map (fun i => (i.zero, i.size, i.bytes)) = some (some (.agg #[.int .i64 0, .int .i64 0, .int .i64 0, .int .i64 0, .int .i64 0, .int .i64 0, .int .i64 0, .int .i64 0]), 8, 64) := by kernel_rfl

theorem infoFlute : (Try.prog.info? 176).map (fun i => (i.zero, i.size, i.bytes)) = some (some (.agg #[.int .i64 0, .int .i64 0, .int .i64 0, .int .i64 0]), 4, 32) := by kernel_rfl

/-- A store is handed back. -/
def StorePost (ps : List Paper) (fs : List Flute) (w : World) (e : Ending) (w' : World) : Prop := ∃ a ac g gc, e = .returned (.agg #[.slice a ps.length ac, .slice g fs.length gc]) ∧ Gr w w' ∧ PRow w' a ps ∧ FRow w' g fs ∧ NewAt w.heap.size a ∧ NewAt w.heap.size g

theorem ne_of_at {x y g H : Nat} (h : some x = some g ∨ g = H) (hx : x ≠ y) (hH : H ≠ y) : g ≠ y := by
  rcases h with h | h
  · injection h with h
    omega
  · omega

theorem oneP (x : Paper) : ∀ u ∈ encP x, u.oneCell' = true := by
  intro u hu
  simp only [encP, List.mem_cons, List.not_mem_nil, or_false] at hu
  rcases hu with rfl | rfl | rfl | rfl | rfl | rfl | rfl | rfl <;> rfl

theorem oneF (x : Flute) : ∀ u ∈ encF x, u.oneCell' = true := by
  intro u hu
  simp only [encF, List.mem_cons, List.not_mem_nil, or_false] at hu
  rcases hu with rfl | rfl | rfl | rfl <;> rfl

theorem Own.grownRow {w w' : World} {b : Nat} {vs : List Value} {row : Option Nat} (h : Own w b vs) (g : w.grownBy w' row) (hne : ∀ r, row = some r → b ≠ r) : Own w' b vs := by
  have hb := g.block b h.1.1 (fun e => hne b e.symm rfl)
  exact ⟨⟨Nat.lt_of_lt_of_le h.1.1 g.size, fun i v hv => (World.cell?_of_block (w := w) (a := ⟨b, i, none⟩) hb).trans (h.1.2 i v hv)⟩, fun i => (World.frozen?_of_block (w := w) (a := ⟨b, i, none⟩) hb).trans (h.2 i)⟩

end Go.Proofs.Ytcdilmagcdbogaa

namespace Go.Proofs.Ytcdilmagcdbogaa
set_option linter.unusedVariables false
set_option linter.unusedSimpArgs false
open Go.RowKit

/-- The worlds of which F holds. -/
structure AtW (F : World → Prop) where
  val : World
  property : F val

theorem sem_value {P : Program} {w w' : World} {m : Sem Value} {n : Next} (h : (m >>= fun x => pure (Next.value x) : Sem Next).run P w = .ok n w') : ∃ v, n = .value v := by
  cases hm : m.run P w with
  | ok x w1 =>
    simp [hm, go_sem] at h
    exact ⟨_, h.1.symm⟩
  | halt x w1 => simp [hm, go_sem] at h

def plainB (o : Oper) : Bool := match o.op with
  | .move _ | .assign _ | .build _ _ | .load _ _ | .binOp _ _ _ _ _ | .unOp _ _ _ | .convert _ _ _ | .fieldAddr _ _ _ | .field _ _ _ | .indexAddr _ _ _ | .index _ _ _ | .extract _ _ => true
  | _ => false

theorem plain_value {P : Program} {ρ : Operand → Value} {o : Oper} (hp : plainB o = true) {w w' : World} {n : Next} (h : (execOp ρ o).run P w = .ok n w') : ∃ v, n = .value v := by
  unfold plainB at hp
  unfold execOp at h
  split at hp <;> rename_i e <;> try (rw [e] at h; exact sem_value h)
  · rw [e] at h
    simp [go_sem] at h
    exact ⟨_, h.1.symm⟩
  · rw [e] at h
    simp [go_sem] at h
    exact ⟨_, h.1.symm⟩
  · cases hp

section
variable {P : Program} {ops : Array Oper} {Q : Exit → Act → World → Prop} {S : World → Prop}

theorem ord_of_quiet {L : Act → World → Prop} {Q0 : Act → Prop} {r : List (Nat × Bool)} (hQ : ∀ d v c a w, Q (.panic c) (Act.put a d v) w → Q (.panic c) a w) (w : World) :
    ∀ (l : List Oper) (j : Nat) (a : Act), (∀ k o, l[k]? = some o → ops[j + k]? = some o) → l.all plainB = true → wpQuiet P ops S Q0 l a → (∀ a', Q0 a' → wpOrd P ops Q S L r a' w) →
      wpOrd P ops Q S L ((List.range' j l.length).map (fun i => (i, true)) ++ r) a w
  | [], j, a, _, _, h, hr => hr a h
  | o :: rest, j, a, hl, hp, h, hr => by
    simp only [List.all_cons, Bool.and_eq_true] at hp
    have ho : ops[j]? = some o := hl 0 o rfl
    have hl' : ∀ k o', rest[k]? = some o' → ops[j + 1 + k]? = some o' := fun k o' hk => by
      have := hl (k + 1) o' (by simpa using hk)
      rwa [show j + (k + 1) = j + 1 + k by omega] at this
    show ∃ o v, ops[j]? = some o ∧ YieldsIf P ops S o v a ∧ _ ∧ wpOrd P ops Q S L ((List.range' (j + 1) rest.length).map (fun i => (i, true)) ++ r) (a.put o.dst v) w
    unfold wpQuiet at h
    by_cases hw : Region.wanted o (yielded ops a.tmps) = true
    · rw [if_pos hw] at h
      obtain ⟨v, h1, h2⟩ := h
      refine ⟨o, v, ho, Or.inl ⟨hw, fun w1 hS => ?_⟩, fun c a w => hQ _ _ c a w, ord_of_quiet hQ w rest (j + 1) _ hl' hp.2 h2 hr⟩
      have h3 := h1 w1 hS
      unfold Oper.quietAt at h3
      cases hrun : (execOp a.eval o).run P w1 with
      | halt x w2 => rw [hrun] at h3; exact h3.elim
      | ok n w2 =>
        obtain ⟨u, rfl⟩ := plain_value hp.1 hrun
        rw [hrun] at h3
        obtain ⟨rfl, rfl⟩ := h3
        rfl
    · rw [if_neg hw] at h
      exact ⟨o, undef, ho, Or.inr ⟨by simpa using hw, rfl⟩, fun c a w => hQ _ _ c a w, ord_of_quiet hQ w rest (j + 1) _ hl' hp.2 h hr⟩

/-- A stretch of reads, walked as a quiet region is. -/
theorem ord_seg {lst : List Oper} {L : Act → World → Prop} {r : List (Nat × Bool)} {w : World} {a : Act} (j m : Nat) (hp : (decide (j + m ≤ lst.length) && ((lst.drop j).take m).all plainB) = true)
    (hQ : ∀ d v c a w, Q (.panic c) (Act.put a d v) w → Q (.panic c) a w) (h : wpQuiet P lst.toArray S (fun a' => wpOrd P lst.toArray Q S L r a' w) ((lst.drop j).take m) a) :
    wpOrd P lst.toArray Q S L ((List.range' j m).map (fun i => (i, true)) ++ r) a w := by
  simp only [Bool.and_eq_true, decide_eq_true_eq] at hp
  have hl : ((lst.drop j).take m).length = m := by simp; omega
  have := ord_of_quiet (Q := Q) (L := L) (r := r) hQ w ((lst.drop j).take m) j a (fun k o hk => by
    have hk' : k < m := by
      have := (List.getElem?_eq_some_iff.1 hk).1
      omega
    rw [List.getElem?_take_of_lt hk', List.getElem?_drop] at hk
    simpa using hk) hp.2 h (fun a' h' => h')
  rwa [hl] at this

theorem wp_region_reads {id : Nat} {a : Act} {w : World} {l : List Oper} (S : World → Prop) (n : Nat) (hm : P.follows .mixedOrders = true)
    (hB : (Region.noSelect l.toArray && decide (n + 1 < l.toArray.size) && Region.sinkB .any l.toArray (n + 1) && Region.chainB .any l.toArray (n + 1) && (l.take n).all plainB && ordB .any l.toArray (n + 1) ((List.range' 0 n).map (fun i => (i, true)) ++ [(n, false)]) (Array.replicate l.toArray.size false)) = true)
    (hQ : ∀ d v c a w, Q (.panic c) (Act.put a d v) w → Q (.panic c) a w)
    (hS : S w.drew) (h : wpQuiet P l.toArray S (fun a' => wpOp P l.toArray Q n (fun a' w' => S w' ∧ wpList P l.toArray Q (l.drop (n + 1)) a' w') a' w.drew) (l.take n) a) : (Code.region id l.toArray true).wp P Q a w := by
  simp only [Bool.and_eq_true, decide_eq_true_eq] at hB
  obtain ⟨⟨⟨⟨⟨hsel, hn⟩, hs⟩, hc⟩, hpl⟩, hord⟩ := hB
  have hn' : n + 1 < l.length := by simpa using hn
  have hlen : (l.take n).length = n := by simp; omega
  refine wp_region_ord S (n + 1) ((List.range' 0 n).map (fun i => (i, true)) ++ [(n, false)]) hm (by simp only [Bool.and_eq_true, decide_eq_true_eq]; exact ⟨⟨⟨⟨⟨hsel, hn⟩, hs⟩, hc⟩, by simp⟩, hord⟩) hS ?_
  have := ord_of_quiet (Q := Q) (L := fun a' w' => wpList P l.toArray Q (l.drop (n + 1)) a' w') (r := [(n, false)]) hQ w.drew (l.take n) 0 a (fun k o hk => by
    rw [Nat.zero_add]
    have hk' : k < n := by
      have := (List.getElem?_eq_some_iff.1 hk).1
      omega
    simpa [List.getElem?_take, hk'] using hk) hpl h (fun a' h' => h')
  rwa [hlen] at this

end

end Go.Proofs.Ytcdilmagcdbogaa

namespace Go.Proofs.Ytcdilmagcdbogaa
set_option linter.unusedVariables false
set_option linter.unusedSimpArgs false
open Go.RowKit

def HeldP (b : Nat) (y0 y1 y2 y3 : Int) (c : Nat) (pv : Value) (w' : World) : Prop := w'.cell? ⟨b, 0, none⟩ = some (.int .u8 y0) ∧ w'.cell? ⟨b, 1, none⟩ = some (.int .u8 y1) ∧ w'.cell? ⟨b, 2, none⟩ = some (.int .u8 y2) ∧ w'.cell? ⟨b, 3, none⟩ = some (.int .u8 y3) ∧ w'.cell? ⟨c, 0, none⟩ = some pv

def HeldF (b : Nat) (y2 : Int) (c : Nat) (pv : Value) (w' : World) : Prop := w'.cell? ⟨b, 2, none⟩ = some (.int .u8 y2) ∧ w'.cell? ⟨c, 1, none⟩ = some pv

def fpaper (v0 v1 v2 v3 : Int) (k : Int) : Paper := ⟨1 + k % 2, 80 + v0, 100 + v1, 100 + v1 + v2 % 60, v3 % 90, v3 % 90 + v2 % 20, 2000 * v0, 5 * v1⟩

def fflute (v0 v1 v2 : Int) : Flute := ⟨2000 + 20 * v0, 2000 + 20 * v0 + (2000 + 20 * v0) * v2 / 400, 1000 + 8 * v1, 1000 + 8 * v1 + v2 % 200⟩

def storeP (x0 x1 x2 x3 x4 x5 x6 x7 x8 x9 x10 x11 : Int) : List Paper := [fpaper x0 x1 x2 x3 0, fpaper x4 x5 x6 x7 1, fpaper x8 x9 x10 x11 2]

def storeF (x12 x13 x14 x15 x16 x17 : Int) : List Flute := [fflute x12 x13 x14, fflute x15 x16 x17]

def Byt (n : Int) : Prop := 0 ≤ n ∧ n ≤ 255

theorem owns_other {w : World} {base : Nat} {e : TypeId} {sz : Nat} {v : Value} {n : Nat} {xs : List Value} {c i : Nat} {u : Value} (h : w.ownsRow base e sz v n xs) (hc : c < base) : (w.setCell ⟨c, i, none⟩ u).ownsRow base e sz v n xs := by
  obtain ⟨h1, h2⟩ := h
  refine ⟨h1, ?_⟩
  rcases h2 with h2 | ⟨b, cap, cur, hv, hb, hh, r⟩
  · exact .inl h2
  · exact .inr ⟨b, cap, cur, hv, hb, (Below.heap_setCell _ _ _ _ (show b ≠ c by omega)).trans hh, r⟩

theorem Box.c3 {w : World} {b : Nat} {x0 x1 x2 : Value} (h : Box w b [x0, x1, x2]) : w.cell? ⟨b, 0, none⟩ = some x0 ∧ w.cell? ⟨b, 1, none⟩ = some x1 ∧ w.cell? ⟨b, 2, none⟩ = some x2 := ⟨h.2 0 x0 rfl, h.2 1 x1 rfl, h.2 2 x2 rfl⟩

theorem Box.other {w : World} {b c i : Nat} {vs : List Value} {v : Value} (h : Box w c vs) (hne : c ≠ b) : Box (w.setCell ⟨b, i, none⟩ v) c vs :=
  ⟨by simpa using h.1, fun j u hu => by rw [cell_set_ne v (.inl hne)]; exact h.2 j u hu⟩

end Go.Proofs.Ytcdilmagcdbogaa

namespace Go.Proofs.Ytcdilmagcdbogaa
set_option linter.unusedVariables false
set_option linter.unusedSimpArgs false
open Go.RowKit

structure V6 where
  a : Int
  b : Int
  c : Int
  d : Int
  e : Int
  f : Int

structure V3 where
  a : Int
  b : Int
  c : Int

def encV6 (v : V6) : List Value := [.int .u8 v.a, .int .u8 v.b, .int .u8 v.c, .int .u8 v.d, .int .u8 v.e, .int .u8 v.f]

def encV3 (v : V3) : List Value := [.int .u8 v.a, .int .u8 v.b, .int .u8 v.c]

abbrev Row6 := RowOf 6 encV6

abbrev Row3 := RowOf 3 encV3

def isB (n : Int) : Prop := 0 ≤ n ∧ n ≤ 255

def B6 (v : V6) : Prop := isB v.a ∧ isB v.b ∧ isB v.c ∧ isB v.d ∧ isB v.e ∧ isB v.f

def B3 (v : V3) : Prop := isB v.a ∧ isB v.b ∧ isB v.c

def npW (n : Nat) : Nat := if n ≤ 2 then 2 else if n ≤ 5 then n else 5

def nfW (n : Nat) : Nat := if n = 0 then 1 else if n ≤ 3 then n else 3

def wareP (P : List V6) (i : Nat) : V6 := match P[i]? with | some v => v | none => ⟨i, 120, 20, 7, 30, 20⟩

def wareF (F : List V3) (i : Nat) : V3 := match F[i]? with | some v => v | none => ⟨80, 128, 36⟩

def paperW (k : Nat) (v : V6) : Paper := ⟨if 1 < k then 1 + v.a % 2 else 1 + k, 50 + v.b, 50 + v.c, 50 + v.c + v.a / 8, v.d % 100, v.d % 100 + v.d / 16, 1000 * v.e, 10 * v.f⟩

def fluteW (v : V3) : Flute := ⟨1000 + 35 * v.a, 1000 + 35 * v.a + (1000 + 35 * v.a) * v.b / 255, 500 + 10 * v.c, 500 + 10 * v.c + v.b % 90⟩

def storeWP (P : List V6) : List Paper := (List.range (npW P.length)).map fun i => paperW i (wareP P i)

def storeWF (F : List V3) : List Flute := (List.range (nfW F.length)).map fun i => fluteW (wareF F i)

theorem storeWP_len (P : List V6) : (storeWP P).length = npW P.length := by simp [storeWP]

theorem storeWF_len (F : List V3) : (storeWF F).length = nfW F.length := by simp [storeWF]

theorem npW_bd (n : Nat) : 2 ≤ npW n ∧ npW n ≤ 5 := by unfold npW; split <;> (try split) <;> omega

theorem nfW_bd (n : Nat) : 1 ≤ nfW n ∧ nfW n ≤ 3 := by unfold nfW; split <;> (try split) <;> omega

theorem storeWP_at {P : List V6} {k : Nat} (h : k < npW P.length) : (storeWP P)[k]? = some (paperW k (wareP P k)) := by
  unfold storeWP
  rw [List.getElem?_map, List.getElem?_range h]
  rfl

theorem storeWF_at {F : List V3} {k : Nat} (h : k < nfW F.length) : (storeWF F)[k]? = some (fluteW (wareF F k)) := by
  unfold storeWF
  rw [List.getElem?_map, List.getElem?_range h]
  rfl

theorem wareP_B {P : List V6} (hP : ∀ v ∈ P, B6 v) {k : Nat} (hk : k < 5) : B6 (wareP P k) := by
  unfold wareP
  cases h : P[k]? with
  | some v => exact hP v (List.mem_of_getElem? h)
  | none => simp only [B6, isB]; omega

theorem wareF_B {F : List V3} (hF : ∀ v ∈ F, B3 v) (k : Nat) : B3 (wareF F k) := by
  unfold wareF
  cases h : F[k]? with
  | some v => exact hF v (List.mem_of_getElem? h)
  | none => simp only [B3, isB]; omega

theorem u8_small {k : Nat} (h : k < 5) : IntKind.u8.wrap (k : Int) = k := by
  have h5 : k = 0 ∨ k = 1 ∨ k = 2 ∨ k = 3 ∨ k = 4 := by omega
  rcases h5 with rfl | rfl | rfl | rfl | rfl <;> rfl

theorem owns_val {w : World} {base : Nat} {e : TypeId} {sz : Nat} {v : Value} {n : Nat} {xs : List Value} (h : w.ownsRow base e sz v n xs) : ∃ a cap, v = .slice a n cap := by
  obtain ⟨h1, h2⟩ := h
  rcases h2 with ⟨hv, hn⟩ | ⟨b, cap, cur, hv, _⟩
  · exact ⟨none, 0, by rw [hv, hn]⟩
  · exact ⟨some ⟨b, 0, none⟩, cap, hv⟩

theorem Own.news {v : World} {b : Nat} {vs : List Value} (h : Own v b vs) : ∀ (j : Nat) (u : Value), vs[j]? = some u → v.cell? ((⟨b, 0, none⟩ : Addr).add j) = some u := by
  intro j u hu
  have hc := h.1.2 j u hu
  unfold Addr.add
  split
  · rename_i h0
    subst h0
    exact hc
  · simpa using hc

end Go.Proofs.Ytcdilmagcdbogaa

namespace Go.Proofs.Ytcdilmagcdbogaa
set_option linter.unusedVariables false
set_option linter.unusedSimpArgs false
open Go.RowKit

def kindW (P : List V6) (i : Nat) : Int := (paperW i (wareP P i)).kind

def kindsW (P : List V6) (c : Int) : Nat → List Int
  | 0 => []
  | n + 1 => kindsW P c n ++ (if kindW P n = c then [(n : Int)] else [])

theorem kindsW_len (P : List V6) (c : Int) : ∀ n, (kindsW P c n).length ≤ n
  | 0 => by simp [kindsW]
  | n + 1 => by
    have := kindsW_len P c n
    unfold kindsW
    split <;> simp <;> omega

theorem kindsW_mono (P : List V6) (c : Int) : ∀ n m, n ≤ m → (kindsW P c n).length ≤ (kindsW P c m).length
  | n, 0, h => by
    have : n = 0 := by omega
    subst this
    exact Nat.le_refl _
  | n, m + 1, h => by
    by_cases e : n = m + 1
    · subst e; exact Nat.le_refl _
    · have := kindsW_mono P c n m (by omega)
      show _ ≤ (kindsW P c m ++ _).length
      rw [List.length_append]
      omega

theorem kindsW_pos1 (P : List V6) {n : Nat} (h : 2 ≤ n) : 0 < (kindsW P 1 n).length := by
  have h1 := kindsW_mono P 1 1 n (by omega)
  have h2 : (kindsW P 1 1).length = 1 := by simp [kindsW, kindW, paperW]
  omega

theorem kindsW_pos2 (P : List V6) {n : Nat} (h : 2 ≤ n) : 0 < (kindsW P 2 n).length := by
  have h1 := kindsW_mono P 2 2 n h
  have h2 : (kindsW P 2 2).length = 1 := by simp [kindsW, kindW, paperW]
  omega

/-- All of a kind's numbers are of this kind. -/
theorem kindsW_mem {P : List V6} {c : Int} : ∀ {n : Nat} {x : Int}, x ∈ kindsW P c n → ∃ i : Nat, x = (i : Int) ∧ i < n ∧ kindW P i = c
  | 0, x, h => by simp [kindsW] at h
  | n + 1, x, h => by
    unfold kindsW at h
    rcases List.mem_append.1 h with h | h
    · obtain ⟨i, e, hi, hk⟩ := kindsW_mem h
      exact ⟨i, e, by omega, hk⟩
    · split at h
      · rename_i hk
        simp at h
        exact ⟨n, h, by omega, hk⟩
      · simp at h

theorem kindW_12 {P : List V6} (hP : ∀ v ∈ P, B6 v) {i : Nat} (hi : i < 5) : kindW P i = 1 ∨ kindW P i = 2 := by
  obtain ⟨⟨h0, h1⟩, _⟩ := wareP_B hP hi
  unfold kindW paperW
  simp only
  split <;> omega

def flW (Y : List Int) : Nat := 1 + (byteL Y 0).toNat % 2

theorem flW_12 (Y : List Int) : flW Y = 1 ∨ flW Y = 2 := by unfold flW; omega

def pickW (L : List Int) (n : Nat) : Int := L.getD (n % L.length) 0

def kindRow (P : List V6) (i : Nat) : List Int := kindsW P (if i % 2 = 0 then 1 else 2) (npW P.length)

def makeWP (P : List V6) (Y : List Int) : List Int := (List.range (2 * flW Y + 1)).map fun i => pickW (kindRow P i) (byteL Y (i + 1)).toNat

def makeWF (F : List V3) (Y : List Int) : List Int := (List.range (flW Y)).map fun j => (((byteL Y (2 * j + 1 + 6)).toNat % nfW F.length : Nat) : Int)

theorem makeWP_len (P : List V6) (Y : List Int) : (makeWP P Y).length = 2 * flW Y + 1 := by simp [makeWP]

theorem makeWF_len (F : List V3) (Y : List Int) : (makeWF F Y).length = flW Y := by simp [makeWF]

theorem makeWP_at {P : List V6} {Y : List Int} {k : Nat} (h : k < 2 * flW Y + 1) : (makeWP P Y)[k]? = some (pickW (kindRow P k) (byteL Y (k + 1)).toNat) := by
  unfold makeWP
  rw [List.getElem?_map, List.getElem?_range h]
  rfl

theorem makeWF_at {F : List V3} {Y : List Int} {k : Nat} (h : k < flW Y) : (makeWF F Y)[k]? = some (((byteL Y (2 * k + 1 + 6)).toNat % nfW F.length : Nat) : Int) := by
  unfold makeWF
  rw [List.getElem?_map, List.getElem?_range h]
  rfl

/-- What stays while armMake works. -/
structure MkS (w : World) (vs : List Value) (D : Nat) (sa sg : Option Addr) (SP : List Paper) (SF : List Flute) (sc gc : Nat) (v : World) : Prop where
  gr : Gr w v
  hx : Box v w.heap.size vs
  or : Own v (w.heap.size + 1) [.slice none 0 0, .slice none 0 0]
  b3 : Box v D [.slice sa SP.length sc, .slice sg SF.length gc]
  rp : PRow v sa SP
  rf : FRow v sg SF

/-- The places beside it. -/
structure MkP (w : World) (D : Nat) (sa sg : Option Addr) : Prop where
  hD : w.heap.size + 1 < D
  ha : ∀ b off, sa = some ⟨b, off, none⟩ → b < D
  hg : ∀ b off, sg = some ⟨b, off, none⟩ → b < D

variable {w : World} {vs : List Value} {D : Nat} {sa sg : Option Addr} {SP : List Paper} {SF : List Flute} {sc gc : Nat} {v v' : World}

theorem MkS.keep (h : MkS w vs D sa sg SP SF sc gc v) (g : Gr v v') : MkS w vs D sa sg SP SF sc gc v' :=
  ⟨h.gr.tr g, h.hx.keep g, h.or.keep g, h.b3.keep g, h.rp.grow g, h.rf.grow g⟩

theorem MkS.set (h : MkS w vs D sa sg SP SF sc gc v) (p : MkP w D sa sg) {c : Nat} (hc : D < c) (i : Nat) (u : Value) : MkS w vs D sa sg SP SF sc gc (v.setCell ⟨c, i, none⟩ u) := by
  have := p.hD
  exact ⟨h.gr.setCell (show w.heap.size ≤ c by omega) u, h.hx.other (by omega), h.or.other (by omega), h.b3.other (by omega), h.rp.setAt (fun b off e => by have := p.ha b off e; omega) i u, h.rf.setAt (fun b off e => by have := p.hg b off e; omega) i u⟩

theorem MkS.grown (h : MkS w vs D sa sg SP SF sc gc v) (p : MkP w D sa sg) {row : Option Nat} (hg : v.grownBy v' row) (hr : ∀ r, row = some r → D < r) : MkS w vs D sa sg SP SF sc gc v' := by
  have := p.hD
  exact ⟨Below.grown h.gr hg h.gr.size (fun k hk => by have := hr k hk; omega), h.hx.grown hg (fun r e => by have := hr r e; omega), h.or.grownRow hg (fun r e => by have := hr r e; omega), h.b3.grown hg (fun r e => by have := hr r e; omega),
    h.rp.grown hg (fun r b off e e' => by have := hr r e; have := p.ha b off e'; omega), h.rf.grown hg (fun r b off e e' => by have := hr r e; have := p.hg b off e'; omega)⟩

end Go.Proofs.Ytcdilmagcdbogaa

namespace Go.Proofs.Ytcdilmagcdbogaa
set_option linter.unusedVariables false
set_option linter.unusedSimpArgs false
open Go.RowKit

/-- What lay hands back. -/
def LaidPost (ps : List Paper) (fs : List Flute) (mp mf : List Int) (pa fa ma ga : Option Addr) (pc fc mc gc : Nat) (w : World) (e : Ending) (w' : World) : Prop :=
  ∃ b, e = .returned (.agg #[.slice ma mp.length mc, .slice ga mf.length gc, .slice pa ps.length pc, .slice fa fs.length fc, .int .i64 (partsL fs mf), .map (some b)]) ∧ Gr w w' ∧ MapIs w' b 5 (usedL fs mp mf)

set_option maxRecDepth 100000 in
set_option maxHeartbeats 4000000 in
theorem lay_any (ps : List Paper) (fs : List Flute) (mp mf : List Int) (F : Fine ps fs mp mf) (pa fa ma ga : Option Addr) (pc fc mc gc : Nat) (w : World) (hp : PRow w pa ps) (hf : FRow w fa fs) (hm : IRow w ma mp) (hg : IRow w ga mf) :
    Calls Try.prog 105 #[.agg #[.slice pa ps.length pc, .slice fa fs.length fc], .agg #[.slice ma mp.length mc, .slice ga mf.length gc]] w (LaidPost ps fs mp mf pa fa ma ga pc fc mc gc w) := by
  have hl1 := hp.1
  have hl2 := hf.1
  have hl3 := hm.1
  have hl4 := hg.1
  have hf1 := F.f1
  have hf2 := F.f2
  have hmpl := F.mpl
  have HF := Lib.hid F
  have Hmpl := Lib.hid hmpl
  have hmp5 : mp.length ≤ 5 := by omega
  clear hmpl
  -- the blocks
  have g1 := Gr.al w (.cells #[.slice pa ps.length pc, .slice fa fs.length fc] 124)
  have g2 := g1.tr (Gr.al _ (.cells #[.slice ma mp.length mc, .slice ga mf.length gc] 127))
  have g3 := Gr.al ((w.alloc (.cells #[.slice pa ps.length pc, .slice fa fs.length fc] 124)).alloc (.cells #[.slice ma mp.length mc, .slice ga mf.length gc] 127)) (.cells #[.slice none 0 0, .slice none 0 0, .slice none 0 0, .slice none 0 0, .int .i64 0, .map none] 182)
  have o3 := Own.new ((w.alloc (.cells #[.slice pa ps.length pc, .slice fa fs.length fc] 124)).alloc (.cells #[.slice ma mp.length mc, .slice ga mf.length gc] 127)) [.slice none 0 0, .slice none 0 0, .slice none 0 0, .slice none 0 0, .int .i64 0, .map none] 182 (w.heap.size + 1 + 1) (by simp)
  have m4 := MapIs.made (((w.alloc (.cells #[.slice pa ps.length pc, .slice fa fs.length fc] 124)).alloc (.cells #[.slice ma mp.length mc, .slice ga mf.length gc] 127)).alloc (.cells #[.slice none 0 0, .slice none 0 0, .slice none 0 0, .slice none 0 0, .int .i64 0, .map none] 182))
  have g4 := Gr.al (((w.alloc (.cells #[.slice pa ps.length pc, .slice fa fs.length fc] 124)).alloc (.cells #[.slice ma mp.length mc, .slice ga mf.length gc] 127)).alloc (.cells #[.slice none 0 0, .slice none 0 0, .slice none 0 0, .slice none 0 0, .int .i64 0, .map none] 182)) (.map #[] 0)
  have e4 : (((w.alloc (.cells #[.slice pa ps.length pc, .slice fa fs.length fc] 124)).alloc (.cells #[.slice ma mp.length mc, .slice ga mf.length gc] 127)).alloc (.cells #[.slice none 0 0, .slice none 0 0, .slice none 0 0, .slice none 0 0, .int .i64 0, .map none] 182)).heap.size = w.heap.size + 1 + 1 + 1 := by simp
  rw [e4] at m4
  have o5 := Own.new ((((w.alloc (.cells #[.slice pa ps.length pc, .slice fa fs.length fc] 124)).alloc (.cells #[.slice ma mp.length mc, .slice ga mf.length gc] 127)).alloc (.cells #[.slice none 0 0, .slice none 0 0, .slice none 0 0, .slice none 0 0, .int .i64 0, .map none] 182)).alloc (.map #[] 0)) [.slice ma mp.length mc, .slice ga mf.length gc, .slice pa ps.length pc, .slice fa fs.length fc, .int .i64 1, .map (some (w.heap.size + 1 + 1 + 1))] 182 (w.heap.size + 1 + 1 + 1 + 1) (by simp)
  have g5 := Gr.al ((((w.alloc (.cells #[.slice pa ps.length pc, .slice fa fs.length fc] 124)).alloc (.cells #[.slice ma mp.length mc, .slice ga mf.length gc] 127)).alloc (.cells #[.slice none 0 0, .slice none 0 0, .slice none 0 0, .slice none 0 0, .int .i64 0, .map none] 182)).alloc (.map #[] 0)) (.cells #[.slice ma mp.length mc, .slice ga mf.length gc, .slice pa ps.length pc, .slice fa fs.length fc, .int .i64 1, .map (some (w.heap.size + 1 + 1 + 1))] 182)
  have gall := g2.tr (g3.tr (g4.tr g5))
  have o3' := o3.keep (g4.tr g5)
  have m4' := m4.keep g5
  clear g1 g2 g3 g4 g5 e4 o3 m4
  have hmm := @run_makeMap Try.prog
  go_enter Try.func105, Try.ntmps105
  go_wp2
  refine wp_abs (fun W => Gr w W ∧ Own W (w.heap.size + 1 + 1) [.slice none 0 0, .slice none 0 0, .slice none 0 0, .slice none 0 0, .int .i64 0, .map none] ∧ MapIs W (w.heap.size + 1 + 1 + 1) 0 (fun _ => 0) ∧
    Own W (w.heap.size + 1 + 1 + 1 + 1) [.slice ma mp.length mc, .slice ga mf.length gc, .slice pa ps.length pc, .slice fa fs.length fc, .int .i64 1, .map (some (w.heap.size + 1 + 1 + 1))]) ⟨gall, o3', m4', o5⟩ ?_
  clear gall o3' m4' o5
  rintro W ⟨gW, oR, mM, oX⟩
  have HR := Lib.hid (show w.heap.size ≤ w.heap.size + 1 + 1 by omega)
  generalize w.heap.size + 1 + 1 = R at *
  clear hmm
  have hfi := field123_0
  go_loopw [17] (fun i wr => ∃ k : Nat, k ≤ mf.length ∧ i = .int .i64 k ∧ Gr w wr ∧ Own wr R [.slice none 0 0, .slice none 0 0, .slice none 0 0, .slice none 0 0, .int .i64 0, .map none] ∧ MapIs wr (R + 1) 0 (fun _ => 0) ∧
    Own wr (R + 1 + 1) [.slice ma mp.length mc, .slice ga mf.length gc, .slice pa ps.length pc, .slice fa fs.length fc, .int .i64 (partsTo fs mf k), .map (some (R + 1))]) (fun i wr => mf.length - (intOf i).toNat)
  case atStart => exact ⟨0, Nat.zero_le _, rfl, gW, oR, mM, oX⟩
  case round =>
    clear gW oR mM oX
    obtain ⟨k, hk, rfl, gW, oR, mM, oX⟩ := hrel
    by_cases hlt : k < mf.length
    · obtain ⟨n, f, hi, hn, hgf⟩ := HF.out.flu k hlt
      obtain ⟨p1, p2⟩ := partsTo_le HF.out (show k ≤ mf.length by omega)
      obtain ⟨p3, p4⟩ := partsTo_le HF.out (show k + 1 ≤ mf.length by omega)
      have ef := fluteAt_eq hi hn
      have p5 : partsTo fs mf (k + 1) = partsTo fs mf k * f.pitch := by show partsTo fs mf k * (fluteAt fs mf k).pitch = _; rw [ef]
      rw [p5] at p3 p4
      have P5 := Lib.hid p5
      have Hi := Lib.hid hi
      have Hn := Lib.hid hn
      clear p5 ef hi hn hgf
      obtain ⟨q0, q1, q2, q3, q4, q5⟩ := oX.1.c6
      have fz := oX.2
      have z0 := fz 4
      go_wp2
      go_region_with ((go_at_call 133; refine (flute_any _ _ _ _ _ _ _ _ _ _ _ _ _ _ _ k rfl n f Hi.out Hn.out _ (hf.grow (gW.tr (Gr.dr _))) (hg.grow (gW.tr (Gr.dr _)))).mono ?_; rintro e w1 ⟨rfl, hx⟩; have oX1 := oX.keep ((Gr.dr _).tr hx); obtain ⟨r0, r1, r2, r3, r4, r5⟩ := oX1.1.c6; have z1 := oX1.2 4))
      all_goals
        go_wp2
        go_roundw
        case rel =>
          refine ⟨k + 1, by omega, by go_num, (gW.tr ((Gr.dr _).tr hx)).setCell (by have := HR.out; show _ ≤ R + 1 + 1; omega) _, (oR.keep ((Gr.dr _).tr hx)).other (by omega), (mM.keep ((Gr.dr _).tr hx)).other (by omega), ?_⟩
          rw [P5.out]
          exact oX1.set (i := 4) (by simp)
        case measure => simp [intOf]; omega
    · obtain rfl : k = mf.length := by omega
      clear hlt hk
      change Own wr (R + 1 + 1) [_, _, _, _, .int .i64 (partsL fs mf), _] at oX
      obtain ⟨q0, q1, q2, q3, q4, q5⟩ := oX.1.c6
      obtain ⟨p1, p2⟩ := parts_bd HF.out
      go_wp2
      clear q0 q1 q2 q3 q4 q5
      go_loopw [33] (fun i wr => ∃ k : Nat, k ≤ mp.length ∧ i = .int .i64 k ∧ Gr w wr ∧ Own wr R [.slice none 0 0, .slice none 0 0, .slice none 0 0, .slice none 0 0, .int .i64 0, .map none] ∧ MapIs wr (R + 1) k (usedTo fs mp mf k) ∧
        Own wr (R + 1 + 1) [.slice ma mp.length mc, .slice ga mf.length gc, .slice pa ps.length pc, .slice fa fs.length fc, .int .i64 (partsL fs mf), .map (some (R + 1))]) (fun i wr => mp.length - (intOf i).toNat)
      case atStart => exact ⟨0, Nat.zero_le _, rfl, gW, oR, mM, oX⟩
      case round =>
        clear gW oR mM oX
        obtain ⟨k, hk, rfl, gW, oR, mM, oX⟩ := hrel
        by_cases hlt : k < mp.length
        · obtain ⟨n, p, hi, hn, hgf⟩ := HF.out.pap k hlt
          have hn8 : n < 8 := by
            have := (List.getElem?_eq_some_iff.1 hn).1
            have := HF.out.np
            omega
          obtain ⟨t1, t2⟩ := take_bd HF.out hlt
          obtain ⟨u1, u2⟩ := usedTo_bd HF.out (n : Int) k (by omega)
          have hgm := hm.grow gW
          obtain ⟨b0, off0, rfl, hb0, r0⟩ := IRow.get hgm hi
          have Hgd := Lib.hid (show mp.getD k 0 = (n : Int) by simp [hi])
          clear hi hn hgf hgm
          obtain ⟨q0, q1, q2, q3, q4, q5⟩ := oX.1.c6
          have hl0 := mM.dr.look (n : Int) (wf64 (by omega) (by omega))
          have hwr : IntKind.i64.wrap (usedTo fs mp mf k (n : Int) + takeL fs mf k) = usedTo fs mp mf k (n : Int) + takeL fs mf k := IntWalk.i64_in _ (by omega)
          go_wp2
          go_region_with ((go_at_call 134; refine (take_any ps fs mp mf HF.out _ _ _ _ _ _ _ _ _ _ k rfl hlt _ (hf.grow (gW.tr (Gr.dr _))) (hg.grow (gW.tr (Gr.dr _)))).mono ?_; rintro e w1 ⟨rfl, hx⟩; have oX1 := oX.keep ((Gr.dr _).tr hx); obtain ⟨r0, r1, r2, r3, r4, r5⟩ := oX1.1.c6; have mM1 := mM.keep ((Gr.dr _).tr hx); have hl1 := mM1.look (n : Int) (wf64 (by omega) (by omega)); obtain ⟨w2, hput, mM2, hgr⟩ := mM1.put (by omega) (n : Int) (usedTo fs mp mf k n + takeL fs mf k) (wf64 (by omega) (by omega)) (wf64 (by omega) (by omega))))
          all_goals
            clear hwr
            go_wp2
            go_roundw
            case rel =>
              refine ⟨k + 1, by omega, by go_num, (gW.tr ((Gr.dr _).tr hx)).grown hgr ((gW.tr ((Gr.dr _).tr hx)).size) (fun j e => by cases e; have := HR.out; omega), (oR.keep ((Gr.dr _).tr hx)).grown hgr (by omega), mM2.congr (by omega) (fun y => ?_), oX1.grown hgr (by omega)⟩
              show _ = if y = mp.getD k 0 then usedTo fs mp mf k y + takeL fs mf k else usedTo fs mp mf k y
              rw [Hgd.out]
              by_cases hy : y = (n : Int)
              · rw [if_pos hy, if_pos hy, hy]
              · rw [if_neg hy, if_neg hy]
            case measure => simp [intOf]; omega
        · obtain rfl : k = mp.length := by omega
          obtain ⟨q0, q1, q2, q3, q4, q5⟩ := oX.1.c6
          obtain ⟨r0, r1, r2, r3, r4, r5⟩ := oR.1.c6
          have z := oR.2
          have z0 := z 0
          have z1 := z 1
          have z2 := z 2
          have z3 := z 3
          have z4 := z 4
          have z5 := z 5
          clear z
          go_wp2
          refine bodyPost_ret (v := .agg #[.slice ma mp.length mc, .slice ga mf.length gc, .slice pa ps.length pc, .slice fa fs.length fc, .int .i64 (partsL fs mf), .map (some (R + 1))]) (by simp [results, Try.results105, go_sem, r0, r1, r2, r3, r4, r5]) rfl ⟨R + 1, rfl, ?_, ?_⟩
          · have := HR.out
            exact (((((gW.setCell (by omega) _).setCell (by omega) _).setCell (by omega) _).setCell (by omega) _).setCell (by omega) _).setCell (by omega) _
          · exact ((((((mM.other (by omega)).other (by omega)).other (by omega)).other (by omega)).other (by omega)).other (by omega)).congr (by omega) (fun _ => rfl)

end Go.Proofs.Ytcdilmagcdbogaa

namespace Go.Proofs.Ytcdilmagcdbogaa
set_option linter.unusedVariables false
set_option linter.unusedSimpArgs false
open Go.RowKit

/-- What the first k papers of the store have together. -/
def totalTo (ps : List Paper) (fs : List Flute) (mp mf : List Int) (of : Paper → Int) : Nat → Int
  | 0 => 0
  | k + 1 => totalTo ps fs mp mf of k + of (paperN ps k) * usedL fs mp mf k

def totalL (ps : List Paper) (fs : List Flute) (mp mf : List Int) (of : Paper → Int) : Int := totalTo ps fs mp mf of ps.length

theorem paperN_eq {ps : List Paper} {n : Nat} {p : Paper} (h : ps[n]? = some p) : paperN ps n = p := by
  simp [paperN, h]

theorem mul_bd {a b A B : Int} (a0 : 0 ≤ a) (a1 : a ≤ A) (b0 : 0 ≤ b) (b1 : b ≤ B) : 0 ≤ a * b ∧ a * b ≤ A * B :=
  ⟨Int.mul_nonneg a0 b0, Int.mul_le_mul a1 b1 b0 (by omega)⟩

theorem totalTo_bd {ps : List Paper} {fs : List Flute} {mp mf : List Int} (F : Fine ps fs mp mf) {of : Paper → Int} {A : Int} (hA : ∀ p, goodP p = true → 0 ≤ of p ∧ of p ≤ A) : ∀ k, k ≤ ps.length → 0 ≤ totalTo ps fs mp mf of k ∧ totalTo ps fs mp mf of k ≤ A * 1000000000 * k
  | 0, _ => by simp [totalTo]
  | k + 1, hk => by
    obtain ⟨h1, h2⟩ := totalTo_bd F hA k (by omega)
    obtain ⟨p, hp⟩ := get_of_lt (show k < ps.length by omega)
    obtain ⟨a0, a1⟩ := hA p (F.good k p hp)
    obtain ⟨u0, u1⟩ := used_bd F (k : Int)
    obtain ⟨m0, m1⟩ := mul_bd a0 a1 u0 u1
    unfold totalTo
    rw [paperN_eq hp]
    refine ⟨by omega, ?_⟩
    rw [show A * 1000000000 * ((k + 1 : Nat) : Int) = A * 1000000000 * (k : Int) + A * 1000000000 from by rw [Int.natCast_add, Int.mul_add]; simp]
    omega

theorem total_bd {ps : List Paper} {fs : List Flute} {mp mf : List Int} (F : Fine ps fs mp mf) {of : Paper → Int} {A : Int} (hA0 : 0 ≤ A) (hA : ∀ p, goodP p = true → 0 ≤ of p ∧ of p ≤ A) : 0 ≤ totalL ps fs mp mf of ∧ totalL ps fs mp mf of ≤ A * 8000000000 := by
  obtain ⟨h1, h2⟩ := totalTo_bd F hA ps.length (Nat.le_refl _)
  refine ⟨h1, Int.le_trans h2 ?_⟩
  have h3 := F.np
  rw [Int.mul_assoc]
  exact Int.mul_le_mul_of_nonneg_left (by omega) hA0

set_option maxRecDepth 100000 in
set_option maxHeartbeats 4000000 in
theorem total0 (ps : List Paper) (fs : List Flute) (mp mf : List Int) (F : Fine ps fs mp mf) (of : Paper → Int) (hA : ∀ p, goodP p = true → 0 ≤ of p ∧ of p ≤ 1000000000) (fid : FuncId) (pa fa ma ga : Option Addr) (pc fc mc gc m : Nat) (w : World)
    (hcall : ∀ (args : Array Value) (W : World), (callFunc fid args).run Try.prog W = .ok (.enter fid args) W)
    (hof : ∀ (p : Paper) (W : World), goodP p = true → Gr w W → Calls Try.prog fid #[.agg #[.int .i64 p.kind, .int .i64 p.weight, .int .i64 p.tlo, .int .i64 p.thi, .int .i64 p.mlo, .int .i64 p.mhi, .int .i64 p.price, .int .i64 p.strong]] W fun e W' => e = .returned (.int .i64 (of p)) ∧ Gr W W')
    (hp : PRow w pa ps) (hm : MapIs w m 5 (usedL fs mp mf)) :
    Calls Try.prog 139 #[.agg #[.slice ma mp.length mc, .slice ga mf.length gc, .slice pa ps.length pc, .slice fa fs.length fc, .int .i64 (partsL fs mf), .map (some m)], .func (.func fid) #[] #[]] w fun e w' =>
      e = .returned (.int .i64 (totalL ps fs mp mf of)) ∧ Gr w w' := by
  have hl1 := hp.1
  have hl8 := F.np
  have HF := Lib.hid F
  have HA := Lib.hid hA
  have Hof := Lib.hid hof
  clear hof hA
  have hb := Box.new w [.slice ma mp.length mc, .slice ga mf.length gc, .slice pa ps.length pc, .slice fa fs.length fc, .int .i64 (partsL fs mf), .map (some m)] 182 w.heap.size rfl
  have gg := Gr.al w (.cells #[.slice ma mp.length mc, .slice ga mf.length gc, .slice pa ps.length pc, .slice fa fs.length fc, .int .i64 (partsL fs mf), .map (some m)] 182)
  have HE := Lib.hid (show totalTo ps fs mp mf of ps.length = totalL ps fs mp mf of from rfl)
  go_enter Try.func139, Try.ntmps139
  go_wp2
  refine wp_abs (fun W => Gr w W ∧ Box W w.heap.size [.slice ma mp.length mc, .slice ga mf.length gc, .slice pa ps.length pc, .slice fa fs.length fc, .int .i64 (partsL fs mf), .map (some m)]) ⟨gg, hb⟩ ?_
  clear gg hb
  rintro W ⟨gW, hb⟩
  go_loopw [12, 5] (fun i s wr => ∃ k : Nat, k ≤ ps.length ∧ i = .int .i64 k ∧ s = .int .i64 (totalTo ps fs mp mf of k) ∧ Gr w wr ∧ Box wr w.heap.size [.slice ma mp.length mc, .slice ga mf.length gc, .slice pa ps.length pc, .slice fa fs.length fc, .int .i64 (partsL fs mf), .map (some m)]) (fun i s wr => ps.length - (intOf i).toNat)
  case atStart => exact ⟨0, Nat.zero_le _, rfl, rfl, gW, hb⟩
  case round =>
    clear gW hb
    obtain ⟨k, hk, rfl, rfl, gW, hb⟩ := hrel
    by_cases hlt : k < ps.length
    · obtain ⟨x, hx⟩ := get_of_lt hlt
      have hgood := HF.out.good k x hx
      obtain ⟨a0, a1⟩ := HA.out x hgood
      obtain ⟨u0, u1⟩ := used_bd HF.out (k : Int)
      obtain ⟨m0, m1⟩ := mul_bd a0 a1 u0 u1
      obtain ⟨t0, t1⟩ := totalTo_bd HF.out HA.out k (by omega)
      have hstep : totalTo ps fs mp mf of (k + 1) = totalTo ps fs mp mf of k + of x * usedL fs mp mf k := by
        show totalTo ps fs mp mf of k + of (paperN ps k) * usedL fs mp mf k = _
        rw [paperN_eq hx]
      have Hstep := Lib.hid hstep
      have Hgood := Lib.hid hgood
      obtain ⟨b0, off0, rfl, hb0, r0, r1, r2, r3, r4, r5, r6, r7⟩ := PRow.get (hp.grow gW) hx
      clear hstep hgood hx
      have gn := Gr.al wr (.cells #[.int .i64 x.kind, .int .i64 x.weight, .int .i64 x.tlo, .int .i64 x.thi, .int .i64 x.mlo, .int .i64 x.mhi, .int .i64 x.price, .int .i64 x.strong] 174)
      have ob := (Box.new wr [.int .i64 x.kind, .int .i64 x.weight, .int .i64 x.tlo, .int .i64 x.thi, .int .i64 x.mlo, .int .i64 x.mhi, .int .i64 x.price, .int .i64 x.strong] 174 wr.heap.size rfl)
      go_wp2
      refine wp_abs (fun W => Gr wr W ∧ Box W wr.heap.size [.int .i64 x.kind, .int .i64 x.weight, .int .i64 x.tlo, .int .i64 x.thi, .int .i64 x.mlo, .int .i64 x.mhi, .int .i64 x.price, .int .i64 x.strong]) ⟨gn, ob⟩ ?_
      clear gn ob
      rintro W1 ⟨gn, ob⟩
      have gd := gn.tr (Gr.dr _)
      obtain ⟨d0, d1, d2, d3, d4, d5, d6, d7⟩ := (ob.keep (Gr.dr _)).c8
      obtain ⟨q0, q1, q2, q3, q4, q5⟩ := (hb.keep gd).c6
      have hlook := (hm.keep (gW.tr gd)).look (k : Int) (wf64 (by omega) (by omega))
      have hw1 : IntKind.i64.wrap (of x * usedL fs mp mf k) = of x * usedL fs mp mf k := IntWalk.i64_in _ (by omega)
      have hw2 : IntKind.i64.wrap (totalTo ps fs mp mf of k + of x * usedL fs mp mf k) = totalTo ps fs mp mf of k + of x * usedL fs mp mf k := IntWalk.i64_in _ (by omega)
      clear a0 a1 u0 u1 m0 m1 t0 t1
      go_region_held3 (fun w' => w'.cell? ⟨wr.heap.size, 0, none⟩ = some (.int .i64 x.kind) ∧ w'.cell? ⟨wr.heap.size, 1, none⟩ = some (.int .i64 x.weight) ∧ w'.cell? ⟨wr.heap.size, 2, none⟩ = some (.int .i64 x.tlo) ∧ w'.cell? ⟨wr.heap.size, 3, none⟩ = some (.int .i64 x.thi) ∧ w'.cell? ⟨wr.heap.size, 4, none⟩ = some (.int .i64 x.mlo) ∧ w'.cell? ⟨wr.heap.size, 5, none⟩ = some (.int .i64 x.mhi) ∧ w'.cell? ⟨wr.heap.size, 6, none⟩ = some (.int .i64 x.price) ∧ w'.cell? ⟨wr.heap.size, 7, none⟩ = some (.int .i64 x.strong) ∧ w'.cell? ⟨w.heap.size, 5, none⟩ = some (.map (some m)) ∧ (Instr.lookup 180 (.map (some m)) (.int .i64 k) false).run Try.prog w' = .ok (.int .i64 (usedL fs mp mf k)) w') (first | exact ⟨d0, d1, d2, d3, d4, d5, d6, d7, q5, hlook⟩ | exact ⟨e0, e1, e2, e3, e4, e5, e6, e7, s5, hlook2⟩) (first | ((refine (Hof.out x _ Hgood.out (gW.tr gd)).mono ?_); rintro e w2 ⟨rfl, hx⟩; (obtain ⟨e0, e1, e2, e3, e4, e5, e6, e7⟩ := (ob.keep ((Gr.dr _).tr hx)).c8); (obtain ⟨s0, s1, s2, s3, s4, s5⟩ := (hb.keep (gd.tr hx)).c6); have hlook2 := (hm.keep (gW.tr (gd.tr hx))).look (k : Int) (wf64 (by omega) (by omega))))
      all_goals
        clear hw1 hw2
        go_wp2
        refine ⟨⟨k + 1, by omega, by go_num, by rw [Hstep.out], gW.tr (gd.tr hx), hb.keep (gd.tr hx)⟩, ?_⟩
        simp [intOf]
        omega
    · obtain rfl : k = ps.length := by omega
      go_wp2
      go_ret
      exact ⟨ret_int HE.out, gW⟩

set_option maxRecDepth 100000 in
set_option maxHeartbeats 4000000 in
theorem total1 (ps : List Paper) (fs : List Flute) (mp mf : List Int) (F : Fine ps fs mp mf) (of : Paper → Int) (hA : ∀ p, goodP p = true → 0 ≤ of p ∧ of p ≤ 1000000000) (fid : FuncId) (v : Value) (pa fa ma ga : Option Addr) (pc fc mc gc m : Nat) (w : World)
    (hcall : ∀ (args : Array Value) (W : World), (callFunc fid args).run Try.prog W = .ok (.enter fid args) W)
    (hof : ∀ (p : Paper) (W : World), goodP p = true → Gr w W → Calls Try.prog fid #[.agg #[.int .i64 p.kind, .int .i64 p.weight, .int .i64 p.tlo, .int .i64 p.thi, .int .i64 p.mlo, .int .i64 p.mhi, .int .i64 p.price, .int .i64 p.strong], v] W fun e W' => e = .returned (.int .i64 (of p)) ∧ Gr W W')
    (hp : PRow w pa ps) (hm : MapIs w m 5 (usedL fs mp mf)) :
    Calls Try.prog 139 #[.agg #[.slice ma mp.length mc, .slice ga mf.length gc, .slice pa ps.length pc, .slice fa fs.length fc, .int .i64 (partsL fs mf), .map (some m)], .func (.func fid) #[] #[v]] w fun e w' =>
      e = .returned (.int .i64 (totalL ps fs mp mf of)) ∧ Gr w w' := by
  have hl1 := hp.1
  have hl8 := F.np
  have HF := Lib.hid F
  have HA := Lib.hid hA
  have Hof := Lib.hid hof
  clear hof hA
  have hb := Box.new w [.slice ma mp.length mc, .slice ga mf.length gc, .slice pa ps.length pc, .slice fa fs.length fc, .int .i64 (partsL fs mf), .map (some m)] 182 w.heap.size rfl
  have gg := Gr.al w (.cells #[.slice ma mp.length mc, .slice ga mf.length gc, .slice pa ps.length pc, .slice fa fs.length fc, .int .i64 (partsL fs mf), .map (some m)] 182)
  have HE := Lib.hid (show totalTo ps fs mp mf of ps.length = totalL ps fs mp mf of from rfl)
  go_enter Try.func139, Try.ntmps139
  go_wp2
  refine wp_abs (fun W => Gr w W ∧ Box W w.heap.size [.slice ma mp.length mc, .slice ga mf.length gc, .slice pa ps.length pc, .slice fa fs.length fc, .int .i64 (partsL fs mf), .map (some m)]) ⟨gg, hb⟩ ?_
  clear gg hb
  rintro W ⟨gW, hb⟩
  go_loopw [12, 5] (fun i s wr => ∃ k : Nat, k ≤ ps.length ∧ i = .int .i64 k ∧ s = .int .i64 (totalTo ps fs mp mf of k) ∧ Gr w wr ∧ Box wr w.heap.size [.slice ma mp.length mc, .slice ga mf.length gc, .slice pa ps.length pc, .slice fa fs.length fc, .int .i64 (partsL fs mf), .map (some m)]) (fun i s wr => ps.length - (intOf i).toNat)
  case atStart => exact ⟨0, Nat.zero_le _, rfl, rfl, gW, hb⟩
  case round =>
    clear gW hb
    obtain ⟨k, hk, rfl, rfl, gW, hb⟩ := hrel
    by_cases hlt : k < ps.length
    · obtain ⟨x, hx⟩ := get_of_lt hlt
      have hgood := HF.out.good k x hx
      obtain ⟨a0, a1⟩ := HA.out x hgood
      obtain ⟨u0, u1⟩ := used_bd HF.out (k : Int)
      obtain ⟨m0, m1⟩ := mul_bd a0 a1 u0 u1
      obtain ⟨t0, t1⟩ := totalTo_bd HF.out HA.out k (by omega)
      have hstep : totalTo ps fs mp mf of (k + 1) = totalTo ps fs mp mf of k + of x * usedL fs mp mf k := by
        show totalTo ps fs mp mf of k + of (paperN ps k) * usedL fs mp mf k = _
        rw [paperN_eq hx]
      have Hstep := Lib.hid hstep
      have Hgood := Lib.hid hgood
      obtain ⟨b0, off0, rfl, hb0, r0, r1, r2, r3, r4, r5, r6, r7⟩ := PRow.get (hp.grow gW) hx
      clear hstep hgood hx
      have gn := Gr.al wr (.cells #[.int .i64 x.kind, .int .i64 x.weight, .int .i64 x.tlo, .int .i64 x.thi, .int .i64 x.mlo, .int .i64 x.mhi, .int .i64 x.price, .int .i64 x.strong] 174)
      have ob := (Box.new wr [.int .i64 x.kind, .int .i64 x.weight, .int .i64 x.tlo, .int .i64 x.thi, .int .i64 x.mlo, .int .i64 x.mhi, .int .i64 x.price, .int .i64 x.strong] 174 wr.heap.size rfl)
      go_wp2
      refine wp_abs (fun W => Gr wr W ∧ Box W wr.heap.size [.int .i64 x.kind, .int .i64 x.weight, .int .i64 x.tlo, .int .i64 x.thi, .int .i64 x.mlo, .int .i64 x.mhi, .int .i64 x.price, .int .i64 x.strong]) ⟨gn, ob⟩ ?_
      clear gn ob
      rintro W1 ⟨gn, ob⟩
      have gd := gn.tr (Gr.dr _)
      obtain ⟨d0, d1, d2, d3, d4, d5, d6, d7⟩ := (ob.keep (Gr.dr _)).c8
      obtain ⟨q0, q1, q2, q3, q4, q5⟩ := (hb.keep gd).c6
      have hlook := (hm.keep (gW.tr gd)).look (k : Int) (wf64 (by omega) (by omega))
      have hw1 : IntKind.i64.wrap (of x * usedL fs mp mf k) = of x * usedL fs mp mf k := IntWalk.i64_in _ (by omega)
      have hw2 : IntKind.i64.wrap (totalTo ps fs mp mf of k + of x * usedL fs mp mf k) = totalTo ps fs mp mf of k + of x * usedL fs mp mf k := IntWalk.i64_in _ (by omega)
      clear a0 a1 u0 u1 m0 m1 t0 t1
      go_region_held3 (fun w' => w'.cell? ⟨wr.heap.size, 0, none⟩ = some (.int .i64 x.kind) ∧ w'.cell? ⟨wr.heap.size, 1, none⟩ = some (.int .i64 x.weight) ∧ w'.cell? ⟨wr.heap.size, 2, none⟩ = some (.int .i64 x.tlo) ∧ w'.cell? ⟨wr.heap.size, 3, none⟩ = some (.int .i64 x.thi) ∧ w'.cell? ⟨wr.heap.size, 4, none⟩ = some (.int .i64 x.mlo) ∧ w'.cell? ⟨wr.heap.size, 5, none⟩ = some (.int .i64 x.mhi) ∧ w'.cell? ⟨wr.heap.size, 6, none⟩ = some (.int .i64 x.price) ∧ w'.cell? ⟨wr.heap.size, 7, none⟩ = some (.int .i64 x.strong) ∧ w'.cell? ⟨w.heap.size, 5, none⟩ = some (.map (some m)) ∧ (Instr.lookup 180 (.map (some m)) (.int .i64 k) false).run Try.prog w' = .ok (.int .i64 (usedL fs mp mf k)) w') (first | exact ⟨d0, d1, d2, d3, d4, d5, d6, d7, q5, hlook⟩ | exact ⟨e0, e1, e2, e3, e4, e5, e6, e7, s5, hlook2⟩) (first | ((refine (Hof.out x _ Hgood.out (gW.tr gd)).mono ?_); rintro e w2 ⟨rfl, hx⟩; (obtain ⟨e0, e1, e2, e3, e4, e5, e6, e7⟩ := (ob.keep ((Gr.dr _).tr hx)).c8); (obtain ⟨s0, s1, s2, s3, s4, s5⟩ := (hb.keep (gd.tr hx)).c6); have hlook2 := (hm.keep (gW.tr (gd.tr hx))).look (k : Int) (wf64 (by omega) (by omega))))
      all_goals
        clear hw1 hw2
        go_wp2
        refine ⟨⟨k + 1, by omega, by go_num, by rw [Hstep.out], gW.tr (gd.tr hx), hb.keep (gd.tr hx)⟩, ?_⟩
        simp [intOf]
        omega
    · obtain rfl : k = ps.length := by omega
      go_wp2
      go_ret
      exact ⟨ret_int HE.out, gW⟩

end Go.Proofs.Ytcdilmagcdbogaa

namespace Go.Proofs.Ytcdilmagcdbogaa
set_option linter.unusedVariables false
set_option linter.unusedSimpArgs false
open Go.RowKit

theorem call133 (args : Array Value) (W : World) : (callFunc 153 args).run Try.prog W = .ok (.enter 153 args) W := by kernel_rfl

theorem call110 (args : Array Value) (W : World) : (callFunc 135 args).run Try.prog W = .ok (.enter 135 args) W := by kernel_rfl

theorem call111 (args : Array Value) (W : World) : (callFunc 136 args).run Try.prog W = .ok (.enter 136 args) W := by kernel_rfl

theorem f110_any (a b : Int) (w : World) :
    Calls Try.prog 135 #[.agg #[.int .i64 a, .int .i64 b]] w fun e w' => e = .returned (.int .i64 a) ∧ Gr w w' := by
  have gg := Gr.al w (.cells #[.int .i64 a, .int .i64 b] 45)
  go_enter Try.func135, Try.ntmps135
  go_wp2
  go_ret
  exact ⟨rfl, gg⟩

theorem f111_any (a b : Int) (w : World) :
    Calls Try.prog 136 #[.agg #[.int .i64 a, .int .i64 b]] w fun e w' => e = .returned (.int .i64 b) ∧ Gr w w' := by
  have gg := Gr.al w (.cells #[.int .i64 a, .int .i64 b] 45)
  go_enter Try.func136, Try.ntmps136
  go_wp2
  go_ret
  exact ⟨rfl, gg⟩

/-- One end of a span: the least number, or the greatest. -/
def endOf (up : Bool) (a b : Int) : Int := if up then b else a

def endFn (up : Bool) : FuncId := if up then 136 else 135

theorem callEnd (up : Bool) (args : Array Value) (W : World) : (callFunc (endFn up) args).run Try.prog W = .ok (.enter (endFn up) args) W := by
  cases up
  · exact call110 args W
  · exact call111 args W

theorem end_any (up : Bool) (a b : Int) (w : World) :
    Calls Try.prog (endFn up) #[.agg #[.int .i64 a, .int .i64 b]] w fun e w' => e = .returned (.int .i64 (endOf up a b)) ∧ Gr w w' := by
  cases up
  · exact f110_any a b w
  · exact f111_any a b w

set_option maxRecDepth 100000 in
set_option maxHeartbeats 1000000 in
theorem f133_any (up : Bool) (p : Paper) (h : goodP p = true) (b : Nat) (w : World) (hb : w.cell? ⟨b, 0, none⟩ = some (.func (.func (endFn up)) #[] #[])) :
    Calls Try.prog 153 #[.agg #[.int .i64 p.kind, .int .i64 p.weight, .int .i64 p.tlo, .int .i64 p.thi, .int .i64 p.mlo, .int .i64 p.mhi, .int .i64 p.price, .int .i64 p.strong], .pointer (some ⟨b, 0, none⟩)] w fun e w' =>
      e = .returned (.int .i64 (p.weight * (1000 + endOf up p.mlo p.mhi))) ∧ Gr w w' := by
  have gg := Gr.al w (.cells #[.int .i64 p.kind, .int .i64 p.weight, .int .i64 p.tlo, .int .i64 p.thi, .int .i64 p.mlo, .int .i64 p.mhi, .int .i64 p.price, .int .i64 p.strong] 174)
  have ob := Box.new w [.int .i64 p.kind, .int .i64 p.weight, .int .i64 p.tlo, .int .i64 p.thi, .int .i64 p.mlo, .int .i64 p.mhi, .int .i64 p.price, .int .i64 p.strong] 174 w.heap.size rfl
  obtain ⟨_, h1, h2, _, _, _, h3, h4, h5, _⟩ := goodP_iff h
  have he : 0 ≤ endOf up p.mlo p.mhi ∧ endOf up p.mlo p.mhi ≤ 200 := by
    unfold endOf
    split <;> omega
  obtain ⟨he0, he1⟩ := he
  obtain ⟨m0, m1⟩ := mul_bd (show 0 ≤ p.weight by omega) h2 (show 0 ≤ 1000 + endOf up p.mlo p.mhi by omega) (show 1000 + endOf up p.mlo p.mhi ≤ 1200 by omega)
  have hcall := callEnd up
  go_enter Try.func153, Try.ntmps153
  go_wp2
  refine wp_abs (fun W => Gr w W ∧ Box W w.heap.size [.int .i64 p.kind, .int .i64 p.weight, .int .i64 p.tlo, .int .i64 p.thi, .int .i64 p.mlo, .int .i64 p.mhi, .int .i64 p.price, .int .i64 p.strong]) ⟨gg, ob⟩ ?_
  clear gg ob
  rintro W ⟨gg, ob⟩
  have gd := gg.tr (Gr.dr _)
  obtain ⟨d0, d1, d2, d3, d4, d5, d6, d7⟩ := (ob.keep (Gr.dr _)).c8
  have d8 := gd.keep hb
  have hw1 : IntKind.i64.wrap (1000 + endOf up p.mlo p.mhi) = 1000 + endOf up p.mlo p.mhi := IntWalk.i64_in _ (by omega)
  have hw2 : IntKind.i64.wrap (p.weight * (1000 + endOf up p.mlo p.mhi)) = p.weight * (1000 + endOf up p.mlo p.mhi) := IntWalk.i64_in _ (by omega)
  clear he0 he1 m0 m1 h1 h2 h3 h4 h5
  go_region_held3 (fun w' => w'.cell? ⟨w.heap.size, 1, none⟩ = some (.int .i64 p.weight) ∧ w'.cell? ⟨w.heap.size, 4, none⟩ = some (.int .i64 p.mlo) ∧ w'.cell? ⟨w.heap.size, 5, none⟩ = some (.int .i64 p.mhi) ∧ w'.cell? ⟨b, 0, none⟩ = some (.func (.func (endFn up)) #[] #[])) (first | exact ⟨d1, d4, d5, d8⟩ | exact ⟨e1, e4, e5, e8⟩) (first | ((refine (end_any up _ _ _).mono ?_); rintro e w2 ⟨rfl, hx⟩; (obtain ⟨e0, e1, e2, e3, e4, e5, e6, e7⟩ := (ob.keep ((Gr.dr _).tr hx)).c8); have e8 := (gd.tr hx).keep hb))
  all_goals
    go_wp2
    go_ret
    exact ⟨rfl, gd.tr hx⟩

/-- The greatest number that divides both. -/
def gcdI (num den : Int) : Int := (Nat.gcd num.toNat den.toNat : Nat)

theorem gcdI_pos {num den : Int} (hd : 1 ≤ den) : 1 ≤ gcdI num den := by
  have : 0 < Nat.gcd num.toNat den.toNat := Nat.gcd_pos_of_pos_right _ (by omega)
  unfold gcdI
  omega

end Go.Proofs.Ytcdilmagcdbogaa

namespace Go.Proofs.Ytcdilmagcdbogaa
set_option linter.unusedVariables false
set_option linter.unusedSimpArgs false
open Go.RowKit

def weightOf (p : Paper) : Int := p.weight

def strongOf (p : Paper) : Int := p.strong

def priceOf (p : Paper) : Int := p.weight * p.price

def moistOf (up : Bool) (p : Paper) : Int := p.weight * (1000 + endOf up p.mlo p.mhi)

theorem weightOf_bd (p : Paper) (h : goodP p = true) : 0 ≤ weightOf p ∧ weightOf p ≤ 1000000000 := by
  obtain ⟨_, h1, h2, _⟩ := goodP_iff h
  unfold weightOf; omega

theorem strongOf_bd (p : Paper) (h : goodP p = true) : 0 ≤ strongOf p ∧ strongOf p ≤ 1000000000 := by
  obtain ⟨_, _, _, _, _, _, _, _, _, _, _, h1, h2⟩ := goodP_iff h
  unfold strongOf; omega

theorem priceOf_bd (p : Paper) (h : goodP p = true) : 0 ≤ priceOf p ∧ priceOf p ≤ 1000000000 := by
  obtain ⟨_, h1, h2, _, _, _, _, _, _, h3, h4, _⟩ := goodP_iff h
  exact mul_bd (show 0 ≤ p.weight by omega) h2 h3 h4

theorem endOf_bd (up : Bool) (p : Paper) (h : goodP p = true) : 0 ≤ endOf up p.mlo p.mhi ∧ endOf up p.mlo p.mhi ≤ 200 := by
  obtain ⟨_, _, _, _, _, _, h3, h4, h5, _⟩ := goodP_iff h
  unfold endOf
  split <;> omega

theorem moistOf_bd (up : Bool) (p : Paper) (h : goodP p = true) : 0 ≤ moistOf up p ∧ moistOf up p ≤ 1000000000 := by
  obtain ⟨_, h1, h2, _⟩ := goodP_iff h
  obtain ⟨h3, h4⟩ := endOf_bd up p h
  have := mul_bd (show 0 ≤ p.weight by omega) h2 (show 0 ≤ 1000 + endOf up p.mlo p.mhi by omega) (show 1000 + endOf up p.mlo p.mhi ≤ 1200 by omega)
  unfold moistOf
  omega

def weightL (ps : List Paper) (fs : List Flute) (mp mf : List Int) : Int := totalL ps fs mp mf weightOf

def strongL (ps : List Paper) (fs : List Flute) (mp mf : List Int) : Int := totalL ps fs mp mf strongOf / partsL fs mf

def costL (ps : List Paper) (fs : List Flute) (mp mf : List Int) : Int := (totalL ps fs mp mf priceOf + 1000 * partsL fs mf - 1) / (1000 * partsL fs mf)

def moistL (up : Bool) (ps : List Paper) (fs : List Flute) (mp mf : List Int) : Int := totalL ps fs mp mf (moistOf up) / (1000 * partsL fs mf)

theorem totals_bd {ps : List Paper} {fs : List Flute} {mp mf : List Int} (F : Fine ps fs mp mf) {of : Paper → Int} (h : ∀ p, goodP p = true → 0 ≤ of p ∧ of p ≤ 1000000000) : 0 ≤ totalL ps fs mp mf of ∧ totalL ps fs mp mf of ≤ 8000000000000000000 :=
  total_bd F (by decide) h

theorem quo_le {t d : Int} (h0 : 0 ≤ t) (h1 : t ≤ 9223372036854775807) (hd : 1 ≤ d) : 0 ≤ t / d ∧ t / d ≤ 9223372036854775807 :=
  ⟨Int.ediv_nonneg h0 (by omega), Int.le_trans (Int.ediv_le_self _ h0) h1⟩

set_option maxRecDepth 100000 in
set_option maxHeartbeats 2000000 in
theorem moist_any (up : Bool) (ps : List Paper) (fs : List Flute) (mp mf : List Int) (F : Fine ps fs mp mf) (pa fa ma ga : Option Addr) (pc fc mc gc m : Nat) (w : World) (hp : PRow w pa ps) (hm : MapIs w m 5 (usedL fs mp mf)) :
    Calls Try.prog 137 #[.agg #[.slice ma mp.length mc, .slice ga mf.length gc, .slice pa ps.length pc, .slice fa fs.length fc, .int .i64 (partsL fs mf), .map (some m)], .func (.func (endFn up)) #[] #[]] w fun e w' => e = .returned (.int .i64 (moistL up ps fs mp mf)) ∧ Gr w w' := by
  have gg := (Gr.al w (.cells #[.slice ma mp.length mc, .slice ga mf.length gc, .slice pa ps.length pc, .slice fa fs.length fc, .int .i64 (partsL fs mf), .map (some m)] 182)).tr (Gr.al _ (.cells #[.func (.func (endFn up)) #[] #[]] 188))
  have hb := (Box.new w [.slice ma mp.length mc, .slice ga mf.length gc, .slice pa ps.length pc, .slice fa fs.length fc, .int .i64 (partsL fs mf), .map (some m)] 182 w.heap.size rfl).keep (Gr.al _ (.cells #[.func (.func (endFn up)) #[] #[]] 188))
  have ob := Box.new (w.alloc (.cells #[.slice ma mp.length mc, .slice ga mf.length gc, .slice pa ps.length pc, .slice fa fs.length fc, .int .i64 (partsL fs mf), .map (some m)] 182)) [.func (.func (endFn up)) #[] #[]] 188 (w.heap.size + 1) (by simp)
  obtain ⟨p0, p1⟩ := parts_bd F
  obtain ⟨t0, t1⟩ := totals_bd F (moistOf_bd up)
  have HF := Lib.hid F
  go_enter Try.func137, Try.ntmps137
  go_wp2
  refine wp_abs (fun W => Gr w W ∧ Box W w.heap.size [.slice ma mp.length mc, .slice ga mf.length gc, .slice pa ps.length pc, .slice fa fs.length fc, .int .i64 (partsL fs mf), .map (some m)] ∧ Box W (w.heap.size + 1) [.func (.func (endFn up)) #[] #[]]) ⟨gg, hb, ob⟩ ?_
  clear gg hb ob
  rintro W ⟨gg, hb, ob⟩
  have gd := Gr.dr W
  obtain ⟨d0, d1, d2, d3, d4, d5⟩ := (hb.keep gd).c6
  have hcl := (ob.keep gd).c1
  obtain ⟨qa, qb⟩ := quo_le t0 (by omega) (show 1 ≤ 1000 * partsL fs mf by omega)
  have hz2 : ¬ 1000 * partsL fs mf = 0 := by omega
  have hz3 : ¬ partsL fs mf = 0 := by omega
  have hd1 : (totalL ps fs mp mf (moistOf up)).tdiv (1000 * partsL fs mf) = totalL ps fs mp mf (moistOf up) / (1000 * partsL fs mf) := Int.tdiv_eq_ediv_of_nonneg t0
  have hw1 : IntKind.i64.wrap (totalL ps fs mp mf (moistOf up) / (1000 * partsL fs mf)) = totalL ps fs mp mf (moistOf up) / (1000 * partsL fs mf) := IntWalk.i64_in _ (by omega)
  have hw2 : IntKind.i64.wrap (1000 * partsL fs mf) = 1000 * partsL fs mf := IntWalk.i64_in _ (by omega)
  go_region_held3 (fun w' => w'.cell? ⟨w.heap.size, 0, none⟩ = some (.slice ma mp.length mc) ∧ w'.cell? ⟨w.heap.size, 1, none⟩ = some (.slice ga mf.length gc) ∧ w'.cell? ⟨w.heap.size, 2, none⟩ = some (.slice pa ps.length pc) ∧ w'.cell? ⟨w.heap.size, 3, none⟩ = some (.slice fa fs.length fc) ∧ w'.cell? ⟨w.heap.size, 4, none⟩ = some (.int .i64 (partsL fs mf)) ∧ w'.cell? ⟨w.heap.size, 5, none⟩ = some (.map (some m))) (first | exact ⟨d0, d1, d2, d3, d4, d5⟩ | exact ⟨e0, e1, e2, e3, e4, e5⟩ | go_keep) (first | (go_at_call 139; (refine (total1 ps fs mp mf HF.out (moistOf up) (moistOf_bd up) 153 (.pointer (some ⟨w.heap.size + 1, 0, none⟩)) _ _ _ _ _ _ _ _ _ _ call133 (fun p W h g => f133_any up p h _ W (g.keep hcl)) (hp.grow (gg.tr gd)) (hm.keep (gg.tr gd))).mono ?_); rintro e w2 ⟨rfl, hx⟩; (obtain ⟨e0, e1, e2, e3, e4, e5⟩ := (hb.keep (gd.tr hx)).c6)))
  all_goals
    clear hz2 hz3 hd1 hw1 hw2
    go_wp2
    go_ret
    exact ⟨rfl, gg.tr (gd.tr hx)⟩

end Go.Proofs.Ytcdilmagcdbogaa

namespace Go.Proofs.Ytcdilmagcdbogaa
set_option linter.unusedVariables false
set_option linter.unusedSimpArgs false
open Go.RowKit

def thickP (up : Bool) (ps : List Paper) (mp : List Int) : Nat → Int
  | 0 => 0
  | k + 1 => if kindL (k : Int) == 1 then thickP up ps mp k + endOf up (paperN ps (mp.getD k 0)).tlo (paperN ps (mp.getD k 0)).thi else thickP up ps mp k

def thickF (up : Bool) (fs : List Flute) (mf : List Int) (s : Int) : Nat → Int
  | 0 => s
  | k + 1 => thickF up fs mf s k + endOf up (fluteAt fs mf k).hlo (fluteAt fs mf k).hhi

def thickL (up : Bool) (ps : List Paper) (fs : List Flute) (mp mf : List Int) : Int := thickF up fs mf (thickP up ps mp mp.length) mf.length

theorem endT_bd (up : Bool) (p : Paper) (h : goodP p = true) : 0 ≤ endOf up p.tlo p.thi ∧ endOf up p.tlo p.thi ≤ 1000 := by
  obtain ⟨_, _, _, h3, h4, h5, _⟩ := goodP_iff h
  unfold endOf
  split <;> omega

theorem thickP_bd (up : Bool) {ps : List Paper} {fs : List Flute} {mp mf : List Int} (F : Fine ps fs mp mf) : ∀ k, k ≤ mp.length → 0 ≤ thickP up ps mp k ∧ thickP up ps mp k ≤ 1000 * k
  | 0, _ => by simp [thickP]
  | k + 1, hk => by
    obtain ⟨h1, h2⟩ := thickP_bd up F k (by omega)
    obtain ⟨n, p, hn, hp, _⟩ := F.pap k (by omega)
    obtain ⟨e1, e2⟩ := endT_bd up p (F.good n p hp)
    have e : paperN ps (mp.getD k 0) = p := by simp [hn, paperN_eq hp]
    unfold thickP
    rw [e]
    split <;> omega

theorem thickF_bd (up : Bool) {ps : List Paper} {fs : List Flute} {mp mf : List Int} (F : Fine ps fs mp mf) {s : Int} (hs : 0 ≤ s ∧ s ≤ 100000) : ∀ k, k ≤ mf.length → 0 ≤ thickF up fs mf s k ∧ thickF up fs mf s k ≤ 100000 + 10000 * k
  | 0, _ => by simpa [thickF] using hs
  | k + 1, hk => by
    obtain ⟨h1, h2⟩ := thickF_bd up F hs k (by omega)
    obtain ⟨_, _, _, _, g1, g2, g3⟩ := flute_good F (show k < mf.length by omega)
    unfold thickF
    have : 0 ≤ endOf up (fluteAt fs mf k).hlo (fluteAt fs mf k).hhi ∧ endOf up (fluteAt fs mf k).hlo (fluteAt fs mf k).hhi ≤ 10000 := by
      unfold endOf
      split <;> omega
    omega

set_option maxRecDepth 100000 in
set_option maxHeartbeats 4000000 in
theorem thick_any (up : Bool) (ps : List Paper) (fs : List Flute) (mp mf : List Int) (F : Fine ps fs mp mf) (pa fa ma ga : Option Addr) (pc fc mc gc m : Nat) (w : World) (hp : PRow w pa ps) (hf : FRow w fa fs) (ha : IRow w ma mp) (hg : IRow w ga mf) :
    Calls Try.prog 138 #[.agg #[.slice ma mp.length mc, .slice ga mf.length gc, .slice pa ps.length pc, .slice fa fs.length fc, .int .i64 (partsL fs mf), .map (some m)], .func (.func (endFn up)) #[] #[]] w fun e w' => e = .returned (.int .i64 (thickL up ps fs mp mf)) ∧ Gr w w' := by
  have gg := Gr.al w (.cells #[.slice ma mp.length mc, .slice ga mf.length gc, .slice pa ps.length pc, .slice fa fs.length fc, .int .i64 (partsL fs mf), .map (some m)] 182)
  have hb := Box.new w [.slice ma mp.length mc, .slice ga mf.length gc, .slice pa ps.length pc, .slice fa fs.length fc, .int .i64 (partsL fs mf), .map (some m)] 182 w.heap.size rfl
  have hl1 := hp.1
  have hl2 := hf.1
  have hl3 := ha.1
  have hl4 := hg.1
  have hmp := F.mpl
  have hf2 := F.f2
  have hm5 : mp.length ≤ 5 := by omega
  have Hmp := Lib.hid hmp
  have HF := Lib.hid F
  have hcall := callEnd up
  have hfi := field123_2
  clear hmp
  go_enter Try.func138, Try.ntmps138
  go_wp2
  refine wp_abs (fun W => Gr w W ∧ Box W w.heap.size [.slice ma mp.length mc, .slice ga mf.length gc, .slice pa ps.length pc, .slice fa fs.length fc, .int .i64 (partsL fs mf), .map (some m)]) ⟨gg, hb⟩ ?_
  clear gg hb
  rintro W ⟨gW, hb⟩
  go_loopw [13, 5] (fun i s wr => ∃ k : Nat, k ≤ mp.length ∧ i = .int .i64 k ∧ s = .int .i64 (thickP up ps mp k) ∧ Gr w wr ∧ Box wr w.heap.size [.slice ma mp.length mc, .slice ga mf.length gc, .slice pa ps.length pc, .slice fa fs.length fc, .int .i64 (partsL fs mf), .map (some m)]) (fun i s wr => mp.length - (intOf i).toNat)
  case atStart => exact ⟨0, Nat.zero_le _, rfl, rfl, gW, hb⟩
  case round =>
    clear gW hb
    obtain ⟨k, hk, rfl, rfl, gW, hb⟩ := hrel
    obtain ⟨t0, t1⟩ := thickP_bd up HF.out k hk
    by_cases hlt : k < mp.length
    · obtain ⟨n, x, hn, hx, _⟩ := HF.out.pap k hlt
      obtain ⟨e0, e1⟩ := endT_bd up x (HF.out.good n x hx)
      have hnl : n < ps.length := (List.getElem?_eq_some_iff.1 hx).1
      have hnI : (n : Int) < (ps.length : Int) := by omega
      have hst : thickP up ps mp (k + 1) = if kindL (k : Int) == 1 then thickP up ps mp k + endOf up x.tlo x.thi else thickP up ps mp k := by
        have e : paperN ps (mp.getD k 0) = x := by simp [hn, paperN_eq hx]
        rw [← e]; rfl
      have Hst := Lib.hid hst
      obtain ⟨b0, off0, rfl, hb0, r0⟩ := IRow.get (ha.grow gW) hn
      obtain ⟨b1, off1, rfl, hb1, s0, s1, s2, s3, s4, s5, s6, s7⟩ := PRow.get (hp.grow gW) hx
      clear hst hn hx
      obtain ⟨q0, q1, q2, q3, q4, q5⟩ := hb.c6
      cases hk1 : (kindL (k : Int) == 1) with
      | true =>
        go_wp2_with (first | (go_at_call 132; refine (kindAt_any k (by omega) _).mono ?_; rintro e w' ⟨rfl, rfl⟩) | (refine (end_any up _ _ _).mono ?_; rintro e w2 ⟨rfl, hy⟩))
        go_roundw
        case rel => exact ⟨k + 1, by omega, by go_num, by rw [Hst.out, hk1]; rfl, gW.tr hy, hb.keep hy⟩
        case measure => simp [intOf]; omega
      | false =>
        go_wp2_with (first | (go_at_call 132; refine (kindAt_any k (by omega) _).mono ?_; rintro e w' ⟨rfl, rfl⟩))
        go_roundw
        case rel => exact ⟨k + 1, by omega, by go_num, by rw [Hst.out, hk1]; rfl, gW, hb⟩
        case measure => simp [intOf]; omega
    · obtain rfl : k = mp.length := by omega
      clear hlt hk
      obtain ⟨q0, q1, q2, q3, q4, q5⟩ := hb.c6
      have hs0 : 0 ≤ thickP up ps mp mp.length ∧ thickP up ps mp mp.length ≤ 100000 := by omega
      have Hs0 := Lib.hid hs0
      clear hs0 t0 t1
      go_wp2
      clear q0 q1 q2 q3 q4 q5
      go_loopw [37, 5] (fun i s wr => ∃ k : Nat, k ≤ mf.length ∧ i = .int .i64 k ∧ s = .int .i64 (thickF up fs mf (thickP up ps mp mp.length) k) ∧ Gr w wr ∧ Box wr w.heap.size [.slice ma mp.length mc, .slice ga mf.length gc, .slice pa ps.length pc, .slice fa fs.length fc, .int .i64 (partsL fs mf), .map (some m)]) (fun i s wr => mf.length - (intOf i).toNat)
      case atStart => exact ⟨0, Nat.zero_le _, rfl, rfl, gW, hb⟩
      case round =>
        clear gW hb
        obtain ⟨k, hk, rfl, rfl, gW, hb⟩ := hrel
        obtain ⟨t0, t1⟩ := thickF_bd up HF.out Hs0.out k hk
        by_cases hlt : k < mf.length
        · obtain ⟨n, f, hi, hn, hgf⟩ := HF.out.flu k hlt
          have ef := fluteAt_eq hi hn
          obtain ⟨_, _, _, _, g1, g2, g3⟩ := goodF_iff hgf
          have he : 0 ≤ endOf up f.hlo f.hhi ∧ endOf up f.hlo f.hhi ≤ 10000 := by
            unfold endOf
            split <;> omega
          obtain ⟨he0, he1⟩ := he
          have hst : thickF up fs mf (thickP up ps mp mp.length) (k + 1) = thickF up fs mf (thickP up ps mp mp.length) k + endOf up f.hlo f.hhi := by rw [← ef]; rfl
          have Hst := Lib.hid hst
          have Hi := Lib.hid hi
          have Hn := Lib.hid hn
          clear hst hi hn ef hgf
          obtain ⟨q0, q1, q2, q3, q4, q5⟩ := hb.c6
          have hf1 := hf.grow gW
          have hg1 := hg.grow gW
          go_wp2_with (first | (go_at_call 133; refine (flute_any _ _ _ _ _ _ _ _ _ _ _ _ _ _ _ k rfl n f Hi.out Hn.out _ hf1 hg1).mono ?_; rintro e w1 ⟨rfl, hx⟩) | (refine (end_any up _ _ _).mono ?_; rintro e w2 ⟨rfl, hy⟩))
          go_roundw
          case rel => exact ⟨k + 1, by omega, by go_num, by rw [Hst.out], gW.tr (hx.tr hy), hb.keep (hx.tr hy)⟩
          case measure => simp [intOf]; omega
        · obtain rfl : k = mf.length := by omega
          go_wp2
          go_ret
          exact ⟨rfl, gW⟩

end Go.Proofs.Ytcdilmagcdbogaa

namespace Go.Proofs.Ytcdilmagcdbogaa
set_option linter.unusedVariables false
set_option linter.unusedSimpArgs false
open Go.RowKit

theorem good_paperW {k : Nat} {v : V6} (hv : B6 v) (hk : k < 5) : goodP (paperW k v) = true := by
  obtain ⟨⟨a0, a1⟩, ⟨b0, b1⟩, ⟨c0, c1⟩, ⟨d0, d1⟩, ⟨e0, e1⟩, ⟨f0, f1⟩⟩ := hv
  simp only [goodP, paperW, inB, in1, okSpan, List.all_cons, List.all_nil, Bool.and_true, Bool.and_eq_true, Bool.or_eq_true, decide_eq_true_eq, beq_iff_eq]
  refine ⟨⟨⟨⟨⟨?_, ?_⟩, ?_⟩, ?_⟩, ?_⟩, ?_⟩ <;> (try split) <;> first | omega | exact ⟨by omega, decide_eq_true (by omega)⟩

theorem good_fluteW {v : V3} (hv : B3 v) : goodF (fluteW v) = true := by
  obtain ⟨⟨a0, a1⟩, ⟨b0, b1⟩, ⟨c0, c1⟩⟩ := hv
  have p0 : 0 ≤ (1000 + 35 * v.a) * v.b := Int.mul_nonneg (by omega) b0
  have p1 : (1000 + 35 * v.a) * v.b ≤ (1000 + 35 * v.a) * 255 := Int.mul_le_mul_of_nonneg_left b1 (by omega)
  simp only [goodF, fluteW, inB, in1, okSpan, List.all_cons, List.all_nil, Bool.and_true, Bool.and_eq_true, decide_eq_true_eq]
  generalize (1000 + 35 * v.a) * v.b = p at *
  have q0 : 0 ≤ p / 255 := by omega
  have q1 : p / 255 ≤ 1000 + 35 * v.a := by omega
  refine ⟨⟨?_, ?_⟩, ?_⟩ <;> first | omega | exact ⟨by omega, decide_eq_true (by omega)⟩

theorem storeWP_good {P : List V6} (hP : ∀ v ∈ P, B6 v) : (storeWP P).all goodP = true := by
  rw [List.all_eq_true]
  intro p hp
  obtain ⟨i, hi, rfl⟩ := List.mem_map.1 hp
  have := (npW_bd P.length).2
  have hi' := List.mem_range.1 hi
  exact good_paperW (wareP_B hP (by omega)) (by omega)

theorem storeWF_good {F : List V3} (hF : ∀ v ∈ F, B3 v) : (storeWF F).all goodF = true := by
  rw [List.all_eq_true]
  intro p hp
  obtain ⟨i, hi, rfl⟩ := List.mem_map.1 hp
  exact good_fluteW (wareF_B hF i)

theorem kindRow_pos (P : List V6) (i : Nat) : 0 < (kindRow P i).length := by
  have := (npW_bd P.length).1
  unfold kindRow
  split
  · exact kindsW_pos1 P this
  · exact kindsW_pos2 P this

theorem pick_mem {L : List Int} (h : 0 < L.length) (n : Nat) : pickW L n ∈ L := by
  have hlt := Nat.mod_lt n h
  unfold pickW
  rw [List.getD_eq_getElem?_getD, List.getElem?_eq_getElem hlt]
  exact List.getElem_mem hlt

/-- What lies at a place of the board. -/
theorem makeWP_kind {P : List V6} {Y : List Int} {k : Nat} (h : k < 2 * flW Y + 1) : ∃ i : Nat, (makeWP P Y)[k]? = some (i : Int) ∧ i < npW P.length ∧ kindW P i = kindL k := by
  have hm := pick_mem (kindRow_pos P k) (byteL Y (k + 1)).toNat
  obtain ⟨i, e, hi, hk⟩ := kindsW_mem hm
  refine ⟨i, by rw [makeWP_at h, e], hi, ?_⟩
  rw [hk]
  unfold kindL
  by_cases h2 : k % 2 = 0
  · rw [if_pos h2, if_pos (by omega)]
  · rw [if_neg h2, if_neg (by omega)]

theorem ware_made {P : List V6} {F : List V3} (Y : List Int) (hP : ∀ v ∈ P, B6 v) (hF : ∀ v ∈ F, B3 v) : madeL (storeWP P) (storeWF F) (makeWP P Y) (makeWF F Y) = 0 := by
  obtain ⟨np2, np5⟩ := npW_bd P.length
  obtain ⟨nf1, nf3⟩ := nfW_bd F.length
  have lP := storeWP_len P
  have lF := storeWF_len F
  have mP := makeWP_len P Y
  have mF := makeWF_len F Y
  have hf := flW_12 Y
  have hc : checkL (storeWP P) (storeWF F) = 0 := by
    unfold checkL
    rw [storeWP_good hP, storeWF_good hF, if_neg (by omega), if_neg (by omega)]
    rfl
  have h1 : formedL (makeWP P Y) (makeWF F Y) = true := by
    unfold formedL
    rw [mP, mF]
    simp [inB, in1]
    omega
  have h2 : numberedL (makeWP P Y) (makeWF F Y) (storeWP P).length (storeWF F).length = true := by
    unfold numberedL inB
    rw [Bool.and_eq_true, List.all_eq_true, List.all_eq_true]
    constructor
    · intro x hx
      obtain ⟨k, hk⟩ := List.getElem?_of_mem hx
      have hlt := (List.getElem?_eq_some_iff.1 hk).1
      obtain ⟨i, e, hi, _⟩ := makeWP_kind (P := P) (Y := Y) (show k < 2 * flW Y + 1 by omega)
      rw [e] at hk
      cases hk
      simp [in1]
      omega
    · intro x hx
      obtain ⟨k, hk⟩ := List.getElem?_of_mem hx
      have hlt := (List.getElem?_eq_some_iff.1 hk).1
      have e := makeWF_at (F := F) (Y := Y) (show k < flW Y by omega)
      rw [e] at hk
      cases hk
      have := Nat.mod_lt (byteL Y (2 * k + 1 + 6)).toNat (show 0 < nfW F.length by omega)
      simp only [in1, Bool.and_eq_true, decide_eq_true_eq]
      omega
  have h3 : kindsOk (storeWP P) (makeWP P Y) = true := by
    refine kindsOk_true fun k hk => ?_
    obtain ⟨i, e, hi, hkk⟩ := makeWP_kind (P := P) (Y := Y) (show k < 2 * flW Y + 1 by omega)
    unfold kindOk
    rw [e]
    simp only [Int.toNat_natCast]
    rw [storeWP_at hi]
    simp only [beq_iff_eq]
    exact hkk
  unfold madeL
  rw [if_neg (by simp [hc]), if_neg (by rw [h1]; decide), if_neg (by rw [h2]; decide), if_neg (by rw [h3]; decide)]

theorem thickP_mono {ps : List Paper} {fs : List Flute} {mp mf : List Int} (F : Fine ps fs mp mf) : ∀ k, k ≤ mp.length → thickP false ps mp k ≤ thickP true ps mp k
  | 0, _ => by simp [thickP]
  | k + 1, hk => by
    have h := thickP_mono F k (by omega)
    obtain ⟨n, p, hn, hp, _⟩ := F.pap k (by omega)
    obtain ⟨_, _, _, h3, h4, h5, _⟩ := goodP_iff (F.good n p hp)
    have e : paperN ps (mp.getD k 0) = p := by simp [hn, paperN_eq hp]
    unfold thickP
    rw [e]
    unfold endOf
    split <;> simp <;> omega

theorem thickF_mono {ps : List Paper} {fs : List Flute} {mp mf : List Int} (F : Fine ps fs mp mf) {s t : Int} (hs : s ≤ t) : ∀ k, k ≤ mf.length → thickF false fs mf s k ≤ thickF true fs mf t k
  | 0, _ => by simpa [thickF] using hs
  | k + 1, hk => by
    have h := thickF_mono F hs k (by omega)
    obtain ⟨_, _, _, _, g1, g2, g3⟩ := flute_good F (show k < mf.length by omega)
    unfold thickF endOf
    simp
    omega

theorem thickF_pos {ps : List Paper} {fs : List Flute} {mp mf : List Int} (F : Fine ps fs mp mf) {s : Int} (hs : 0 ≤ s) : ∀ k : Nat, k ≤ mf.length → (k : Int) ≤ thickF false fs mf s k
  | 0, _ => by simpa [thickF] using hs
  | k + 1, hk => by
    have h := thickF_pos F hs k (by omega)
    obtain ⟨_, _, _, _, g1, g2, g3⟩ := flute_good F (show k < mf.length by omega)
    unfold thickF endOf
    simp
    omega

theorem thick_span {ps : List Paper} {fs : List Flute} {mp mf : List Int} (F : Fine ps fs mp mf) : 1 ≤ thickL false ps fs mp mf ∧ thickL false ps fs mp mf ≤ thickL true ps fs mp mf ∧ thickL true ps fs mp mf ≤ 1000000 := by
  obtain ⟨a0, a1⟩ := thickP_bd false F mp.length (Nat.le_refl _)
  obtain ⟨b0, b1⟩ := thickP_bd true F mp.length (Nat.le_refl _)
  have hm := F.mpl
  have h1 := F.f1
  have h2 := F.f2
  have p := thickF_pos F a0 mf.length (Nat.le_refl _)
  have m := thickF_mono F (thickP_mono F mp.length (Nat.le_refl _)) mf.length (Nat.le_refl _)
  obtain ⟨c0, c1⟩ := thickF_bd true F (s := thickP true ps mp mp.length) ⟨b0, by omega⟩ mf.length (Nat.le_refl _)
  unfold thickL
  omega

end Go.Proofs.Ytcdilmagcdbogaa

namespace Go.Proofs.Ytcdilmagcdbogaa
set_option linter.unusedVariables false
set_option linter.unusedSimpArgs false
open Go.RowKit

set_option maxRecDepth 100000 in
set_option maxHeartbeats 4000000 in
theorem measure_any (ps : List Paper) (fs : List Flute) (mp mf : List Int) (F : Fine ps fs mp mf) (pa fa ma ga : Option Addr) (pc fc mc gc m : Nat) (w : World) (hp : PRow w pa ps) (hf : FRow w fa fs) (ha : IRow w ma mp) (hg : IRow w ga mf) (hm : MapIs w m 5 (usedL fs mp mf)) :
    Calls Try.prog 106 #[.agg #[.slice ma mp.length mc, .slice ga mf.length gc, .slice pa ps.length pc, .slice fa fs.length fc, .int .i64 (partsL fs mf), .map (some m)]] w fun e w' => e = .returned (.tuple #[.agg #[.int .i64 (moistL false ps fs mp mf), .int .i64 (moistL true ps fs mp mf)], .agg #[.int .i64 (thickL false ps fs mp mf), .int .i64 (thickL true ps fs mp mf)]]) ∧ Gr w w' := by
  have gg := ((Gr.al w (.cells #[.slice ma mp.length mc, .slice ga mf.length gc, .slice pa ps.length pc, .slice fa fs.length fc, .int .i64 (partsL fs mf), .map (some m)] 182)).tr (Gr.al _ (.cells #[.int .i64 0, .int .i64 0] 45))).tr (Gr.al _ (.cells #[.int .i64 0, .int .i64 0] 45))
  have hb := (Own.new w [.slice ma mp.length mc, .slice ga mf.length gc, .slice pa ps.length pc, .slice fa fs.length fc, .int .i64 (partsL fs mf), .map (some m)] 182 w.heap.size rfl).keep ((Gr.al _ (.cells #[.int .i64 0, .int .i64 0] 45)).tr (Gr.al _ (.cells #[.int .i64 0, .int .i64 0] 45)))
  have ob := (Own.new (w.alloc (.cells #[.slice ma mp.length mc, .slice ga mf.length gc, .slice pa ps.length pc, .slice fa fs.length fc, .int .i64 (partsL fs mf), .map (some m)] 182)) [.int .i64 0, .int .i64 0] 45 (w.heap.size + 1) (by simp)).keep (Gr.al _ (.cells #[.int .i64 0, .int .i64 0] 45))
  have oc := Own.new ((w.alloc (.cells #[.slice ma mp.length mc, .slice ga mf.length gc, .slice pa ps.length pc, .slice fa fs.length fc, .int .i64 (partsL fs mf), .map (some m)] 182)).alloc (.cells #[.int .i64 0, .int .i64 0] 45)) [.int .i64 0, .int .i64 0] 45 (w.heap.size + 1 + 1) (by simp)
  have HF := Lib.hid F
  go_enter Try.func106, Try.ntmps106
  go_wp2
  refine wp_abs (fun W => Gr w W ∧ Own W w.heap.size [.slice ma mp.length mc, .slice ga mf.length gc, .slice pa ps.length pc, .slice fa fs.length fc, .int .i64 (partsL fs mf), .map (some m)] ∧ Own W (w.heap.size + 1) [.int .i64 0, .int .i64 0] ∧ Own W (w.heap.size + 1 + 1) [.int .i64 0, .int .i64 0]) ⟨gg, hb, ob, oc⟩ ?_
  clear gg hb ob oc
  rintro W ⟨gg, hb, ob, oc⟩
  have gd := Gr.dr W
  obtain ⟨d0, d1, d2, d3, d4, d5⟩ := (hb.keep gd).1.c6
  have tok1 : True := trivial
  go_region_held3 (fun w' => w'.cell? ⟨w.heap.size, 0, none⟩ = some (.slice ma mp.length mc) ∧ w'.cell? ⟨w.heap.size, 1, none⟩ = some (.slice ga mf.length gc) ∧ w'.cell? ⟨w.heap.size, 2, none⟩ = some (.slice pa ps.length pc) ∧ w'.cell? ⟨w.heap.size, 3, none⟩ = some (.slice fa fs.length fc) ∧ w'.cell? ⟨w.heap.size, 4, none⟩ = some (.int .i64 (partsL fs mf)) ∧ w'.cell? ⟨w.heap.size, 5, none⟩ = some (.map (some m))) (first | exact ⟨d0, d1, d2, d3, d4, d5⟩ | exact ⟨e0, e1, e2, e3, e4, e5⟩ | exact ⟨f0, f1, f2, f3, f4, f5⟩ | go_keep) (first | (go_at_call 137; have _t := tok1; (refine (moist_any false ps fs mp mf HF.out _ _ _ _ _ _ _ _ _ _ (hp.grow (gg.tr gd)) (hm.keep (gg.tr gd))).mono ?_); clear tok1 _t; rintro e w2 ⟨rfl, hx⟩; (obtain ⟨e0, e1, e2, e3, e4, e5⟩ := (hb.keep (gd.tr hx)).1.c6)) | (go_at_call 137; (refine (moist_any true ps fs mp mf HF.out _ _ _ _ _ _ _ _ _ _ (hp.grow (gg.tr (gd.tr hx))) (hm.keep (gg.tr (gd.tr hx)))).mono ?_); rintro e w3 ⟨rfl, hy⟩; (obtain ⟨f0, f1, f2, f3, f4, f5⟩ := (hb.keep (gd.tr (hx.tr hy))).1.c6); have ob3 := ob.keep (gd.tr (hx.tr hy)); (obtain ⟨u0, u1⟩ := ob3.1.c2); have z0 := ob3.2 0; have z1 := ob3.2 1))
  go_wp2
  refine wp_abs (fun W => Gr w W ∧ Own W w.heap.size [.slice ma mp.length mc, .slice ga mf.length gc, .slice pa ps.length pc, .slice fa fs.length fc, .int .i64 (partsL fs mf), .map (some m)] ∧ Own W (w.heap.size + 1) [.int .i64 (moistL false ps fs mp mf), .int .i64 (moistL true ps fs mp mf)] ∧ Own W (w.heap.size + 1 + 1) [.int .i64 0, .int .i64 0])
    ⟨((gg.tr (gd.tr (hx.tr hy))).setCell (by simp) _).setCell (by simp) _, ((hb.keep (gd.tr (hx.tr hy))).other (by omega)).other (by omega), ((ob.keep (gd.tr (hx.tr hy))).set (i := 0) (by simp)).set (i := 1) (by simp), ((oc.keep (gd.tr (hx.tr hy))).other (by omega)).other (by omega)⟩ ?_
  clear d0 d1 d2 d3 d4 d5 e0 e1 e2 e3 e4 e5 f0 f1 f2 f3 f4 f5 u0 u1 z0 z1 ob3 hx hy gd gg hb ob oc
  rintro W5 ⟨gg, hb, ob, oc⟩
  have ne2 : ¬ w.heap.size + 1 + 1 = w.heap.size := by omega
  have gd := Gr.dr W5
  obtain ⟨d0, d1, d2, d3, d4, d5⟩ := (hb.keep gd).1.c6
  have tok1 : True := trivial
  go_region_held3 (fun w' => w'.cell? ⟨w.heap.size, 0, none⟩ = some (.slice ma mp.length mc) ∧ w'.cell? ⟨w.heap.size, 1, none⟩ = some (.slice ga mf.length gc) ∧ w'.cell? ⟨w.heap.size, 2, none⟩ = some (.slice pa ps.length pc) ∧ w'.cell? ⟨w.heap.size, 3, none⟩ = some (.slice fa fs.length fc) ∧ w'.cell? ⟨w.heap.size, 4, none⟩ = some (.int .i64 (partsL fs mf)) ∧ w'.cell? ⟨w.heap.size, 5, none⟩ = some (.map (some m))) (first | exact ⟨d0, d1, d2, d3, d4, d5⟩ | exact ⟨e0, e1, e2, e3, e4, e5⟩ | exact ⟨f0, f1, f2, f3, f4, f5⟩ | go_keep) (first | (go_at_call 138; have _t := tok1; (refine (thick_any false ps fs mp mf HF.out _ _ _ _ _ _ _ _ _ _ (hp.grow (gg.tr gd)) (hf.grow (gg.tr gd)) (ha.grow (gg.tr gd)) (hg.grow (gg.tr gd))).mono ?_); clear tok1 _t; rintro e w2 ⟨rfl, hx⟩; (obtain ⟨e0, e1, e2, e3, e4, e5⟩ := (hb.keep (gd.tr hx)).1.c6)) | (go_at_call 138; (refine (thick_any true ps fs mp mf HF.out _ _ _ _ _ _ _ _ _ _ (hp.grow (gg.tr (gd.tr hx))) (hf.grow (gg.tr (gd.tr hx))) (ha.grow (gg.tr (gd.tr hx))) (hg.grow (gg.tr (gd.tr hx)))).mono ?_); rintro e w3 ⟨rfl, hy⟩; (obtain ⟨f0, f1, f2, f3, f4, f5⟩ := (hb.keep (gd.tr (hx.tr hy))).1.c6); have oc3 := oc.keep (gd.tr (hx.tr hy)); (obtain ⟨u0, u1⟩ := oc3.1.c2); have z0 := oc3.2 0; have z1 := oc3.2 1))
  go_wp2
  refine wp_abs (fun W => Gr w W ∧ Own W (w.heap.size + 1) [.int .i64 (moistL false ps fs mp mf), .int .i64 (moistL true ps fs mp mf)] ∧ Own W (w.heap.size + 1 + 1) [.int .i64 (thickL false ps fs mp mf), .int .i64 (thickL true ps fs mp mf)])
    ⟨((gg.tr (gd.tr (hx.tr hy))).setCell (by simp; omega) _).setCell (by simp; omega) _, ((ob.keep (gd.tr (hx.tr hy))).other (by omega)).other (by omega), ((oc.keep (gd.tr (hx.tr hy))).set (i := 0) (by simp)).set (i := 1) (by simp)⟩ ?_
  clear d0 d1 d2 d3 d4 d5 e0 e1 e2 e3 e4 e5 f0 f1 f2 f3 f4 f5 u0 u1 z0 z1 oc3 hx hy gd gg hb ob oc
  rintro W6 ⟨gg, ob, oc⟩
  obtain ⟨a0, a1⟩ := ob.1.c2
  obtain ⟨b0, b1⟩ := oc.1.c2
  have y0 := ob.2 0
  have y1 := ob.2 1
  have y2 := oc.2 0
  have y3 := oc.2 1
  go_region
  go_wp2
  have o1 := ((((ob.set (i := 0) (v := .int .i64 (moistL false ps fs mp mf)) (by simp)).set (i := 1) (v := .int .i64 (moistL true ps fs mp mf)) (by simp)).other (b := w.heap.size + 1 + 1) (i := 0) (v := .int .i64 (thickL false ps fs mp mf)) (by omega)).other (b := w.heap.size + 1 + 1) (i := 1) (v := .int .i64 (thickL true ps fs mp mf)) (by omega)).1.c2
  have o2 := ((((oc.other (b := w.heap.size + 1) (i := 0) (v := .int .i64 (moistL false ps fs mp mf)) (by omega)).other (b := w.heap.size + 1) (i := 1) (v := .int .i64 (moistL true ps fs mp mf)) (by omega)).set (i := 0) (v := .int .i64 (thickL false ps fs mp mf)) (by simp)).set (i := 1) (v := .int .i64 (thickL true ps fs mp mf)) (by simp)).1.c2
  obtain ⟨o10, o11⟩ := o1
  obtain ⟨o20, o21⟩ := o2
  refine bodyPost_ret (v := .tuple #[.agg #[.int .i64 (moistL false ps fs mp mf), .int .i64 (moistL true ps fs mp mf)], .agg #[.int .i64 (thickL false ps fs mp mf), .int .i64 (thickL true ps fs mp mf)]]) (by simp [results, Try.results106, go_sem, o10, o11, o20, o21]) rfl ⟨rfl, ?_⟩
  exact ((((gg.setCell (by simp) _).setCell (by simp) _).setCell (by simp; omega) _).setCell (by simp; omega) _).drew

end Go.Proofs.Ytcdilmagcdbogaa

namespace Go.Proofs.Ytcdilmagcdbogaa
set_option linter.unusedVariables false
set_option linter.unusedSimpArgs false
open Go.RowKit

def weighN (ps : List Paper) (fs : List Flute) (mp mf : List Int) : Int := weightL ps fs mp mf / gcdI (weightL ps fs mp mf) (partsL fs mf)

def weighD (ps : List Paper) (fs : List Flute) (mp mf : List Int) : Int := partsL fs mf / gcdI (weightL ps fs mp mf) (partsL fs mf)

end Go.Proofs.Ytcdilmagcdbogaa

namespace Go.Proofs.Ytcdilmagcdbogaa
set_option linter.unusedVariables false
set_option linter.unusedSimpArgs false
open Go.RowKit

set_option maxRecDepth 100000 in
set_option maxHeartbeats 1000000 in
theorem measureF_err (ps : List Paper) (fs : List Flute) (mp mf : List Int) (pa fa ma ga : Option Addr) (pc fc mc gc : Nat) (w : World) (hp : PRow w pa ps) (hf : FRow w fa fs) (ha : IRow w ma mp) (hg : IRow w ga mf) (c : Int) (hc : madeL ps fs mp mf = c) (h0 : (c != 0) = true) :
    Calls Try.prog 62 #[.agg #[.slice pa ps.length pc, .slice fa fs.length fc], .agg #[.slice ma mp.length mc, .slice ga mf.length gc]] w fun e w' => e = .returned (.tuple #[.agg #[.int .i64 0, .int .i64 0], .agg #[.int .i64 0, .int .i64 0], .int .i64 c]) ∧ Gr w w' := by
  have gg := (((Gr.al w (.cells #[.slice pa ps.length pc, .slice fa fs.length fc] 124)).tr (Gr.al _ (.cells #[.slice ma mp.length mc, .slice ga mf.length gc] 127))).tr (Gr.al _ (.cells #[.int .i64 0, .int .i64 0] 45))).tr (Gr.al _ (.cells #[.int .i64 0, .int .i64 0] 45))
  have hb := (Box.new w [.slice pa ps.length pc, .slice fa fs.length fc] 124 w.heap.size rfl).keep ((Gr.al _ (.cells #[.slice ma mp.length mc, .slice ga mf.length gc] 127)).tr ((Gr.al _ (.cells #[.int .i64 0, .int .i64 0] 45)).tr (Gr.al _ (.cells #[.int .i64 0, .int .i64 0] 45))))
  have hc2 := (Box.new (w.alloc (.cells #[.slice pa ps.length pc, .slice fa fs.length fc] 124)) [.slice ma mp.length mc, .slice ga mf.length gc] 127 (w.heap.size + 1) (by simp)).keep ((Gr.al _ (.cells #[.int .i64 0, .int .i64 0] 45)).tr (Gr.al _ (.cells #[.int .i64 0, .int .i64 0] 45)))
  have ob := (Own.new ((w.alloc (.cells #[.slice pa ps.length pc, .slice fa fs.length fc] 124)).alloc (.cells #[.slice ma mp.length mc, .slice ga mf.length gc] 127)) [.int .i64 0, .int .i64 0] 45 (w.heap.size + 1 + 1) (by simp)).keep (Gr.al _ (.cells #[.int .i64 0, .int .i64 0] 45))
  have oc := Own.new (((w.alloc (.cells #[.slice pa ps.length pc, .slice fa fs.length fc] 124)).alloc (.cells #[.slice ma mp.length mc, .slice ga mf.length gc] 127)).alloc (.cells #[.int .i64 0, .int .i64 0] 45)) [.int .i64 0, .int .i64 0] 45 (w.heap.size + 1 + 1 + 1) (by simp)
  have p1 := hp.grow gg
  have p2 := hf.grow gg
  have p3 := ha.grow gg
  have p4 := hg.grow gg
  have Hc := Lib.hid hc
  clear hc hb hc2
  go_enter Try.func62, Try.ntmps62
  go_wp2_with fail
  refine (made_any ps fs mp mf _ Hc.out _ _ _ _ _ _ _ _ _ p1 p2 p3 p4).mono ?_
  rintro e w1 ⟨rfl, hx⟩
  have ob1 := ob.keep hx
  have oc1 := oc.keep hx
  obtain ⟨t0, t1⟩ := ob1.1.c2
  obtain ⟨t2, t3⟩ := oc1.1.c2
  have z0 := ob1.2 0
  have z1 := ob1.2 1
  have z2 := oc1.2 0
  have z3 := oc1.2 1
  go_wp2
  have o1 := ((((ob1.set (i := 0) (v := .int .i64 0) (by simp)).set (i := 1) (v := .int .i64 0) (by simp)).other (b := w.heap.size + 1 + 1 + 1) (i := 0) (v := .int .i64 0) (by omega)).other (b := w.heap.size + 1 + 1 + 1) (i := 1) (v := .int .i64 0) (by omega)).1.c2
  have o2 := ((((oc1.other (b := w.heap.size + 1 + 1) (i := 0) (v := .int .i64 0) (by omega)).other (b := w.heap.size + 1 + 1) (i := 1) (v := .int .i64 0) (by omega)).set (i := 0) (v := .int .i64 0) (by simp)).set (i := 1) (v := .int .i64 0) (by simp)).1.c2
  obtain ⟨o10, o11⟩ := o1
  obtain ⟨o20, o21⟩ := o2
  refine bodyPost_ret (v := .tuple #[.agg #[.int .i64 0, .int .i64 0], .agg #[.int .i64 0, .int .i64 0], .int .i64 c]) (by simp [results, Try.results62, go_sem, o10, o11, o20, o21]) rfl ⟨rfl, ?_⟩
  exact ((((gg.tr hx).setCell (by simp; omega) _).setCell (by simp; omega) _).setCell (by simp; omega) _).setCell (by simp; omega) _

set_option maxRecDepth 100000 in
set_option maxHeartbeats 2000000 in
theorem measureF_ok (ps : List Paper) (fs : List Flute) (mp mf : List Int) (pa fa ma ga : Option Addr) (pc fc mc gc : Nat) (w : World) (hp : PRow w pa ps) (hf : FRow w fa fs) (ha : IRow w ma mp) (hg : IRow w ga mf) (hc : madeL ps fs mp mf = 0) :
    Calls Try.prog 62 #[.agg #[.slice pa ps.length pc, .slice fa fs.length fc], .agg #[.slice ma mp.length mc, .slice ga mf.length gc]] w fun e w' => e = .returned (.tuple #[.agg #[.int .i64 (moistL false ps fs mp mf), .int .i64 (moistL true ps fs mp mf)], .agg #[.int .i64 (thickL false ps fs mp mf), .int .i64 (thickL true ps fs mp mf)], .int .i64 0]) ∧ Gr w w' := by
  have gg := (((Gr.al w (.cells #[.slice pa ps.length pc, .slice fa fs.length fc] 124)).tr (Gr.al _ (.cells #[.slice ma mp.length mc, .slice ga mf.length gc] 127))).tr (Gr.al _ (.cells #[.int .i64 0, .int .i64 0] 45))).tr (Gr.al _ (.cells #[.int .i64 0, .int .i64 0] 45))
  have hb := (Box.new w [.slice pa ps.length pc, .slice fa fs.length fc] 124 w.heap.size rfl).keep ((Gr.al _ (.cells #[.slice ma mp.length mc, .slice ga mf.length gc] 127)).tr ((Gr.al _ (.cells #[.int .i64 0, .int .i64 0] 45)).tr (Gr.al _ (.cells #[.int .i64 0, .int .i64 0] 45))))
  have hc2 := (Box.new (w.alloc (.cells #[.slice pa ps.length pc, .slice fa fs.length fc] 124)) [.slice ma mp.length mc, .slice ga mf.length gc] 127 (w.heap.size + 1) (by simp)).keep ((Gr.al _ (.cells #[.int .i64 0, .int .i64 0] 45)).tr (Gr.al _ (.cells #[.int .i64 0, .int .i64 0] 45)))
  have ob := (Own.new ((w.alloc (.cells #[.slice pa ps.length pc, .slice fa fs.length fc] 124)).alloc (.cells #[.slice ma mp.length mc, .slice ga mf.length gc] 127)) [.int .i64 0, .int .i64 0] 45 (w.heap.size + 1 + 1) (by simp)).keep (Gr.al _ (.cells #[.int .i64 0, .int .i64 0] 45))
  have oc := Own.new (((w.alloc (.cells #[.slice pa ps.length pc, .slice fa fs.length fc] 124)).alloc (.cells #[.slice ma mp.length mc, .slice ga mf.length gc] 127)).alloc (.cells #[.int .i64 0, .int .i64 0] 45)) [.int .i64 0, .int .i64 0] 45 (w.heap.size + 1 + 1 + 1) (by simp)
  have p1 := hp.grow gg
  have p2 := hf.grow gg
  have p3 := ha.grow gg
  have p4 := hg.grow gg
  have Hc := Lib.hid hc
  have HF := Lib.hid (fine_of_made hc)
  clear hc
  go_enter Try.func62, Try.ntmps62
  go_wp2_with fail
  refine (made_any ps fs mp mf _ Hc.out _ _ _ _ _ _ _ _ _ p1 p2 p3 p4).mono ?_
  rintro e w1 ⟨rfl, hx⟩
  obtain ⟨q0, q1⟩ := (hb.keep hx).c2
  obtain ⟨q2, q3⟩ := (hc2.keep hx).c2
  go_wp2_with fail
  refine (lay_any ps fs mp mf HF.out _ _ _ _ _ _ _ _ _ (p1.grow hx) (p2.grow hx) (p3.grow hx) (p4.grow hx)).mono ?_
  rintro e w2 ⟨m, rfl, hy, hm⟩
  go_wp2_with fail
  refine (measure_any ps fs mp mf HF.out _ _ _ _ _ _ _ _ _ _ (p1.grow (hx.tr hy)) (p2.grow (hx.tr hy)) (p3.grow (hx.tr hy)) (p4.grow (hx.tr hy)) hm).mono ?_
  rintro e w3 ⟨rfl, hz⟩
  have ob1 := ob.keep (hx.tr (hy.tr hz))
  have oc1 := oc.keep (hx.tr (hy.tr hz))
  have gx := gg.tr (hx.tr (hy.tr hz))
  obtain ⟨t0, t1⟩ := ob1.1.c2
  obtain ⟨t2, t3⟩ := oc1.1.c2
  have z0 := ob1.2 0
  have z1 := ob1.2 1
  have z2 := oc1.2 0
  have z3 := oc1.2 1
  go_wp2
  refine wp_abs (fun W => Gr w W ∧ Own W (w.heap.size + 1 + 1) [.int .i64 (moistL false ps fs mp mf), .int .i64 (moistL true ps fs mp mf)] ∧ Own W (w.heap.size + 1 + 1 + 1) [.int .i64 (thickL false ps fs mp mf), .int .i64 (thickL true ps fs mp mf)])
    ⟨(((gx.setCell (by simp; omega) _).setCell (by simp; omega) _).setCell (by simp; omega) _).setCell (by simp; omega) _, (((ob1.set (i := 0) (by simp)).set (i := 1) (by simp)).other (by omega)).other (by omega), (((oc1.other (by omega)).other (by omega)).set (i := 0) (by simp)).set (i := 1) (by simp)⟩ ?_
  clear t0 t1 t2 t3 z0 z1 z2 z3 ob oc ob1 oc1 gx gg hb hc2 p1 p2 p3 p4 hx hy hz q0 q1 q2 q3
  rintro W6 ⟨gg, ob, oc⟩
  obtain ⟨a0, a1⟩ := ob.1.c2
  obtain ⟨b0, b1⟩ := oc.1.c2
  have y0 := ob.2 0
  have y1 := ob.2 1
  have y2 := oc.2 0
  have y3 := oc.2 1
  go_region
  go_wp2
  have o1 := ((((ob.set (i := 0) (v := .int .i64 (moistL false ps fs mp mf)) (by simp)).set (i := 1) (v := .int .i64 (moistL true ps fs mp mf)) (by simp)).other (b := w.heap.size + 1 + 1 + 1) (i := 0) (v := .int .i64 (thickL false ps fs mp mf)) (by omega)).other (b := w.heap.size + 1 + 1 + 1) (i := 1) (v := .int .i64 (thickL true ps fs mp mf)) (by omega)).1.c2
  have o2 := ((((oc.other (b := w.heap.size + 1 + 1) (i := 0) (v := .int .i64 (moistL false ps fs mp mf)) (by omega)).other (b := w.heap.size + 1 + 1) (i := 1) (v := .int .i64 (moistL true ps fs mp mf)) (by omega)).set (i := 0) (v := .int .i64 (thickL false ps fs mp mf)) (by simp)).set (i := 1) (v := .int .i64 (thickL true ps fs mp mf)) (by simp)).1.c2
  obtain ⟨o10, o11⟩ := o1
  obtain ⟨o20, o21⟩ := o2
  refine bodyPost_ret (v := .tuple #[.agg #[.int .i64 (moistL false ps fs mp mf), .int .i64 (moistL true ps fs mp mf)], .agg #[.int .i64 (thickL false ps fs mp mf), .int .i64 (thickL true ps fs mp mf)], .int .i64 0]) (by simp [results, Try.results62, go_sem, o10, o11, o20, o21]) rfl ⟨rfl, ?_⟩
  exact ((((gg.setCell (by simp; omega) _).setCell (by simp; omega) _).setCell (by simp; omega) _).setCell (by simp; omega) _).drew

end Go.Proofs.Ytcdilmagcdbogaa

namespace Go.Proofs.Ytcdilmagcdbogaa
set_option linter.unusedVariables false
set_option linter.unusedSimpArgs false
open Go.RowKit

theorem call114 (args : Array Value) (W : World) : (callFunc 140 args).run Try.prog W = .ok (.enter 140 args) W := by kernel_rfl

theorem f114_any (p : Paper) (w : World) :
    Calls Try.prog 140 #[.agg #[.int .i64 p.kind, .int .i64 p.weight, .int .i64 p.tlo, .int .i64 p.thi, .int .i64 p.mlo, .int .i64 p.mhi, .int .i64 p.price, .int .i64 p.strong]] w fun e w' => e = .returned (.int .i64 p.strong) ∧ Gr w w' := by
  have gg := Gr.al w (.cells #[.int .i64 p.kind, .int .i64 p.weight, .int .i64 p.tlo, .int .i64 p.thi, .int .i64 p.mlo, .int .i64 p.mhi, .int .i64 p.price, .int .i64 p.strong] 174)
  go_enter Try.func140, Try.ntmps140
  go_wp2
  go_ret
  exact ⟨rfl, gg⟩

set_option maxRecDepth 100000 in
set_option maxHeartbeats 2000000 in
theorem strength_any (ps : List Paper) (fs : List Flute) (mp mf : List Int) (F : Fine ps fs mp mf) (pa fa ma ga : Option Addr) (pc fc mc gc m : Nat) (w : World) (hp : PRow w pa ps) (hm : MapIs w m 5 (usedL fs mp mf)) :
    Calls Try.prog 108 #[.agg #[.slice ma mp.length mc, .slice ga mf.length gc, .slice pa ps.length pc, .slice fa fs.length fc, .int .i64 (partsL fs mf), .map (some m)]] w fun e w' => e = .returned (.int .i64 (strongL ps fs mp mf)) ∧ Gr w w' := by
  have gg := Gr.al w (.cells #[.slice ma mp.length mc, .slice ga mf.length gc, .slice pa ps.length pc, .slice fa fs.length fc, .int .i64 (partsL fs mf), .map (some m)] 182)
  have hb := Box.new w [.slice ma mp.length mc, .slice ga mf.length gc, .slice pa ps.length pc, .slice fa fs.length fc, .int .i64 (partsL fs mf), .map (some m)] 182 w.heap.size rfl
  obtain ⟨p0, p1⟩ := parts_bd F
  obtain ⟨t0, t1⟩ := totals_bd F strongOf_bd
  have HF := Lib.hid F
  go_enter Try.func108, Try.ntmps108
  go_wp2
  refine wp_abs (fun W => Gr w W ∧ Box W w.heap.size [.slice ma mp.length mc, .slice ga mf.length gc, .slice pa ps.length pc, .slice fa fs.length fc, .int .i64 (partsL fs mf), .map (some m)]) ⟨gg, hb⟩ ?_
  clear gg hb
  rintro W ⟨gg, hb⟩
  have gd := Gr.dr W
  obtain ⟨d0, d1, d2, d3, d4, d5⟩ := (hb.keep gd).c6
  obtain ⟨qa, qb⟩ := quo_le t0 (by omega) p0
  have hz2 : ¬ partsL fs mf = 0 := by omega
  have hd1 : (totalL ps fs mp mf strongOf).tdiv (partsL fs mf) = totalL ps fs mp mf strongOf / partsL fs mf := Int.tdiv_eq_ediv_of_nonneg t0
  have hw1 : IntKind.i64.wrap (totalL ps fs mp mf strongOf / partsL fs mf) = totalL ps fs mp mf strongOf / partsL fs mf := IntWalk.i64_in _ (by omega)
  go_region_held3 (fun w' => w'.cell? ⟨w.heap.size, 0, none⟩ = some (.slice ma mp.length mc) ∧ w'.cell? ⟨w.heap.size, 1, none⟩ = some (.slice ga mf.length gc) ∧ w'.cell? ⟨w.heap.size, 2, none⟩ = some (.slice pa ps.length pc) ∧ w'.cell? ⟨w.heap.size, 3, none⟩ = some (.slice fa fs.length fc) ∧ w'.cell? ⟨w.heap.size, 4, none⟩ = some (.int .i64 (partsL fs mf)) ∧ w'.cell? ⟨w.heap.size, 5, none⟩ = some (.map (some m))) (first | exact ⟨d0, d1, d2, d3, d4, d5⟩ | exact ⟨e0, e1, e2, e3, e4, e5⟩ | go_keep) (first | (go_at_call 139; (refine (total0 ps fs mp mf HF.out strongOf strongOf_bd 140 _ _ _ _ _ _ _ _ _ _ call114 (fun p W _ _ => f114_any p W) (hp.grow (gg.tr gd)) (hm.keep (gg.tr gd))).mono ?_); rintro e w2 ⟨rfl, hx⟩; (obtain ⟨e0, e1, e2, e3, e4, e5⟩ := (hb.keep (gd.tr hx)).c6)))
  all_goals
    clear hz2 hd1 hw1
    go_wp2
    go_ret
    exact ⟨rfl, gg.tr (gd.tr hx)⟩

set_option maxRecDepth 100000 in
set_option maxHeartbeats 1000000 in
theorem strengthF_err (ps : List Paper) (fs : List Flute) (mp mf : List Int) (pa fa ma ga : Option Addr) (pc fc mc gc : Nat) (w : World) (hp : PRow w pa ps) (hf : FRow w fa fs) (ha : IRow w ma mp) (hg : IRow w ga mf) (c : Int) (hc : madeL ps fs mp mf = c) (h0 : (c != 0) = true) :
    Calls Try.prog 65 #[.agg #[.slice pa ps.length pc, .slice fa fs.length fc], .agg #[.slice ma mp.length mc, .slice ga mf.length gc]] w fun e w' => e = .returned (.tuple #[.int .i64 0, .int .i64 c]) ∧ Gr w w' := by
  have gg := (Gr.al w (.cells #[.slice pa ps.length pc, .slice fa fs.length fc] 124)).tr (Gr.al _ (.cells #[.slice ma mp.length mc, .slice ga mf.length gc] 127))
  have p1 := hp.grow gg
  have p2 := hf.grow gg
  have p3 := ha.grow gg
  have p4 := hg.grow gg
  have Hc := Lib.hid hc
  clear hc
  go_enter Try.func65, Try.ntmps65
  go_wp2_with (go_at_call 104; refine (made_any ps fs mp mf _ Hc.out _ _ _ _ _ _ _ _ _ p1 p2 p3 p4).mono ?_; rintro e w1 ⟨rfl, hx⟩)
  go_ret2
  exact ⟨rfl, gg.tr hx⟩

set_option maxRecDepth 100000 in
set_option maxHeartbeats 1000000 in
theorem strengthF_ok (ps : List Paper) (fs : List Flute) (mp mf : List Int) (pa fa ma ga : Option Addr) (pc fc mc gc : Nat) (w : World) (hp : PRow w pa ps) (hf : FRow w fa fs) (ha : IRow w ma mp) (hg : IRow w ga mf) (hc : madeL ps fs mp mf = 0) :
    Calls Try.prog 65 #[.agg #[.slice pa ps.length pc, .slice fa fs.length fc], .agg #[.slice ma mp.length mc, .slice ga mf.length gc]] w fun e w' => e = .returned (.tuple #[.int .i64 (strongL ps fs mp mf), .int .i64 0]) ∧ Gr w w' := by
  have gg := (Gr.al w (.cells #[.slice pa ps.length pc, .slice fa fs.length fc] 124)).tr (Gr.al _ (.cells #[.slice ma mp.length mc, .slice ga mf.length gc] 127))
  have hb := (Box.new w [.slice pa ps.length pc, .slice fa fs.length fc] 124 w.heap.size rfl).keep (Gr.al _ (.cells #[.slice ma mp.length mc, .slice ga mf.length gc] 127))
  have hc2 := Box.new (w.alloc (.cells #[.slice pa ps.length pc, .slice fa fs.length fc] 124)) [.slice ma mp.length mc, .slice ga mf.length gc] 127 (w.heap.size + 1) (by simp)
  have p1 := hp.grow gg
  have p2 := hf.grow gg
  have p3 := ha.grow gg
  have p4 := hg.grow gg
  have Hc := Lib.hid hc
  have HF := Lib.hid (fine_of_made hc)
  clear hc
  go_enter Try.func65, Try.ntmps65
  go_wp2_with fail
  refine (made_any ps fs mp mf _ Hc.out _ _ _ _ _ _ _ _ _ p1 p2 p3 p4).mono ?_
  rintro e w1 ⟨rfl, hx⟩
  obtain ⟨q0, q1⟩ := (hb.keep hx).c2
  obtain ⟨q2, q3⟩ := (hc2.keep hx).c2
  go_wp2_with fail
  refine (lay_any ps fs mp mf HF.out _ _ _ _ _ _ _ _ _ (p1.grow hx) (p2.grow hx) (p3.grow hx) (p4.grow hx)).mono ?_
  rintro e w2 ⟨m, rfl, hy, hm⟩
  go_wp2_with fail
  refine (strength_any ps fs mp mf HF.out _ _ _ _ _ _ _ _ _ _ (p1.grow (hx.tr hy)) hm).mono ?_
  rintro e w3 ⟨rfl, hz⟩
  go_wp2
  go_ret2
  exact ⟨rfl, gg.tr (hx.tr (hy.tr hz))⟩

end Go.Proofs.Ytcdilmagcdbogaa

namespace Go.Proofs.Ytcdilmagcdbogaa
set_option linter.unusedVariables false
set_option linter.unusedSimpArgs false
open Go.RowKit

theorem board_shape {ps : List Paper} {fs : List Flute} {mp mf : List Int} (F : Fine ps fs mp mf) : (∃ a b c f, mp = [a, b, c] ∧ mf = [f]) ∨ (∃ a b c d e f g, mp = [a, b, c, d, e] ∧ mf = [f, g]) := by
  have h1 := F.f1
  have h2 := F.f2
  have h3 := F.mpl
  match mf, mp, h1, h2, h3 with
  | [f], [a, b, c], _, _, _ => exact .inl ⟨a, b, c, f, rfl, rfl⟩
  | [f, g], [a, b, c, d, e], _, _, _ => exact .inr ⟨a, b, c, d, e, f, g, rfl, rfl⟩

theorem parts_rev (fs : List Flute) (f g : Int) : partsL fs [g, f] = partsL fs [f, g] := by
  show (1 * (fluteN fs g).pitch) * (fluteN fs f).pitch = (1 * (fluteN fs f).pitch) * (fluteN fs g).pitch
  rw [Int.one_mul, Int.one_mul, Int.mul_comm]

theorem take_rev (fs : List Flute) (f g : Int) : takeL fs [g, f] 0 = takeL fs [f, g] 4 ∧ takeL fs [g, f] 1 = takeL fs [f, g] 3 ∧ takeL fs [g, f] 2 = takeL fs [f, g] 2 ∧ takeL fs [g, f] 3 = takeL fs [f, g] 1 ∧ takeL fs [g, f] 4 = takeL fs [f, g] 0 := by
  have hp := parts_rev fs f g
  refine ⟨?_, ?_, ?_, ?_, ?_⟩
  · show partsL fs [g, f] = partsL fs [f, g]
    exact hp
  · show partsL fs [g, f] / (fluteN fs g).pitch * (fluteN fs g).draw = partsL fs [f, g] / (fluteN fs g).pitch * (fluteN fs g).draw
    rw [hp]
  · show partsL fs [g, f] = partsL fs [f, g]
    exact hp
  · show partsL fs [g, f] / (fluteN fs f).pitch * (fluteN fs f).draw = partsL fs [f, g] / (fluteN fs f).pitch * (fluteN fs f).draw
    rw [hp]
  · show partsL fs [g, f] = partsL fs [f, g]
    exact hp

theorem used_rev {ps : List Paper} {fs : List Flute} {mp mf : List Int} (F : Fine ps fs mp mf) (x : Int) : usedL fs mp.reverse mf.reverse x = usedL fs mp mf x := by
  rcases board_shape F with ⟨a, b, c, f, rfl, rfl⟩ | ⟨a, b, c, d, e, f, g, rfl, rfl⟩
  · have h : takeL fs [f] 2 = takeL fs [f] 0 := rfl
    show (if x = a then (if x = b then (if x = c then 0 + takeL fs [f] 0 else 0) + takeL fs [f] 1 else (if x = c then 0 + takeL fs [f] 0 else 0)) + takeL fs [f] 2 else (if x = b then (if x = c then 0 + takeL fs [f] 0 else 0) + takeL fs [f] 1 else (if x = c then 0 + takeL fs [f] 0 else 0))) =
      (if x = c then (if x = b then (if x = a then 0 + takeL fs [f] 0 else 0) + takeL fs [f] 1 else (if x = a then 0 + takeL fs [f] 0 else 0)) + takeL fs [f] 2 else (if x = b then (if x = a then 0 + takeL fs [f] 0 else 0) + takeL fs [f] 1 else (if x = a then 0 + takeL fs [f] 0 else 0)))
    rw [h]
    generalize takeL fs [f] 0 = t0
    generalize takeL fs [f] 1 = t1
    by_cases h1 : x = a <;> by_cases h2 : x = b <;> by_cases h3 : x = c <;> simp only [h1, h2, h3, if_true, if_false] <;> omega
  · obtain ⟨h0, h1, h2, h3, h4⟩ := take_rev fs f g
    have k : ∀ (a b c d e : Int) (mf : List Int), usedL fs [a, b, c, d, e] mf x = (if x = a then takeL fs mf 0 else 0) + (if x = b then takeL fs mf 1 else 0) + (if x = c then takeL fs mf 2 else 0) + (if x = d then takeL fs mf 3 else 0) + (if x = e then takeL fs mf 4 else 0) := by
      intro a b c d e mf
      have u1 : usedTo fs [a, b, c, d, e] mf 1 x = if x = a then takeL fs mf 0 else 0 := by
        show (if x = a then 0 + takeL fs mf 0 else 0) = _
        split <;> omega
      have u2 : usedTo fs [a, b, c, d, e] mf 2 x = (if x = a then takeL fs mf 0 else 0) + (if x = b then takeL fs mf 1 else 0) := by
        show (if x = b then usedTo fs [a, b, c, d, e] mf 1 x + takeL fs mf 1 else usedTo fs [a, b, c, d, e] mf 1 x) = _
        rw [u1]
        by_cases h : x = b
        · rw [if_pos h, if_pos h]
        · rw [if_neg h, if_neg h]; omega
      have u3 : usedTo fs [a, b, c, d, e] mf 3 x = (if x = a then takeL fs mf 0 else 0) + (if x = b then takeL fs mf 1 else 0) + (if x = c then takeL fs mf 2 else 0) := by
        show (if x = c then usedTo fs [a, b, c, d, e] mf 2 x + takeL fs mf 2 else usedTo fs [a, b, c, d, e] mf 2 x) = _
        rw [u2]
        by_cases h : x = c
        · rw [if_pos h, if_pos h]
        · rw [if_neg h, if_neg h]; omega
      have u4 : usedTo fs [a, b, c, d, e] mf 4 x = (if x = a then takeL fs mf 0 else 0) + (if x = b then takeL fs mf 1 else 0) + (if x = c then takeL fs mf 2 else 0) + (if x = d then takeL fs mf 3 else 0) := by
        show (if x = d then usedTo fs [a, b, c, d, e] mf 3 x + takeL fs mf 3 else usedTo fs [a, b, c, d, e] mf 3 x) = _
        rw [u3]
        by_cases h : x = d
        · rw [if_pos h, if_pos h]
        · rw [if_neg h, if_neg h]; omega
      show (if x = e then usedTo fs [a, b, c, d, e] mf 4 x + takeL fs mf 4 else usedTo fs [a, b, c, d, e] mf 4 x) = _
      rw [u4]
      by_cases h : x = e
      · rw [if_pos h, if_pos h]
      · rw [if_neg h, if_neg h]; omega
    show usedL fs [e, d, c, b, a] [g, f] x = _
    rw [k, k, h0, h1, h2, h3, h4]
    omega

theorem total_rev {ps : List Paper} {fs : List Flute} {mp mf : List Int} (F : Fine ps fs mp mf) (of : Paper → Int) : ∀ k, totalTo ps fs mp.reverse mf.reverse of k = totalTo ps fs mp mf of k
  | 0 => rfl
  | k + 1 => by
    unfold totalTo
    rw [total_rev F of k, used_rev F]

theorem partsL_rev {ps : List Paper} {fs : List Flute} {mp mf : List Int} (F : Fine ps fs mp mf) : partsL fs mf.reverse = partsL fs mf := by
  rcases board_shape F with ⟨a, b, c, f, rfl, rfl⟩ | ⟨a, b, c, d, e, f, g, rfl, rfl⟩
  · rfl
  · exact parts_rev fs f g

theorem strong_rev {ps : List Paper} {fs : List Flute} {mp mf : List Int} (F : Fine ps fs mp mf) : strongL ps fs mp.reverse mf.reverse = strongL ps fs mp mf := by
  unfold strongL totalL
  rw [total_rev F, partsL_rev F]

theorem thick3 (up : Bool) (ps : List Paper) (fs : List Flute) (a b c f : Int) : thickL up ps fs [a, b, c] [f] = endOf up (paperN ps a).tlo (paperN ps a).thi + endOf up (paperN ps c).tlo (paperN ps c).thi + endOf up (fluteN fs f).hlo (fluteN fs f).hhi := by
  simp [thickL, thickP, thickF, kindL, fluteAt]

theorem thick5 (up : Bool) (ps : List Paper) (fs : List Flute) (a b c d e f g : Int) : thickL up ps fs [a, b, c, d, e] [f, g] = endOf up (paperN ps a).tlo (paperN ps a).thi + endOf up (paperN ps c).tlo (paperN ps c).thi + endOf up (paperN ps e).tlo (paperN ps e).thi + endOf up (fluteN fs f).hlo (fluteN fs f).hhi + endOf up (fluteN fs g).hlo (fluteN fs g).hhi := by
  simp [thickL, thickP, thickF, kindL, fluteAt]

theorem thick_rev (up : Bool) {ps : List Paper} {fs : List Flute} {mp mf : List Int} (F : Fine ps fs mp mf) : thickL up ps fs mp.reverse mf.reverse = thickL up ps fs mp mf := by
  rcases board_shape F with ⟨a, b, c, f, rfl, rfl⟩ | ⟨a, b, c, d, e, f, g, rfl, rfl⟩
  · show thickL up ps fs [c, b, a] [f] = _
    rw [thick3, thick3]
    omega
  · show thickL up ps fs [e, d, c, b, a] [g, f] = _
    rw [thick5, thick5]
    omega

theorem made_rev {ps : List Paper} {fs : List Flute} {mp mf : List Int} (h : madeL ps fs mp mf = 0) : madeL ps fs mp.reverse mf.reverse = 0 := by
  have F := fine_of_made h
  have e1 : formedL mp.reverse mf.reverse = formedL mp mf := by unfold formedL; rw [List.length_reverse, List.length_reverse]
  have e2 : numberedL mp.reverse mf.reverse ps.length fs.length = numberedL mp mf ps.length fs.length := by
    unfold numberedL inB
    rw [List.all_reverse, List.all_reverse]
  have e3 : kindsOk ps mp.reverse = kindsOk ps mp := by
    rcases board_shape F with ⟨a, b, c, f, rfl, rfl⟩ | ⟨a, b, c, d, e, f, g, rfl, rfl⟩
    · have k0 : kindOk ps [c, b, a] 0 = kindOk ps [a, b, c] 2 := rfl
      have k1 : kindOk ps [c, b, a] 1 = kindOk ps [a, b, c] 1 := rfl
      have k2 : kindOk ps [c, b, a] 2 = kindOk ps [a, b, c] 0 := rfl
      show (kindOk ps [c, b, a] 0 && (kindOk ps [c, b, a] 1 && (kindOk ps [c, b, a] 2 && true))) = (kindOk ps [a, b, c] 0 && (kindOk ps [a, b, c] 1 && (kindOk ps [a, b, c] 2 && true)))
      rw [k0, k1, k2]
      cases kindOk ps [a, b, c] 0 <;> cases kindOk ps [a, b, c] 1 <;> cases kindOk ps [a, b, c] 2 <;> rfl
    · have k0 : kindOk ps [e, d, c, b, a] 0 = kindOk ps [a, b, c, d, e] 4 := rfl
      have k1 : kindOk ps [e, d, c, b, a] 1 = kindOk ps [a, b, c, d, e] 3 := rfl
      have k2 : kindOk ps [e, d, c, b, a] 2 = kindOk ps [a, b, c, d, e] 2 := rfl
      have k3 : kindOk ps [e, d, c, b, a] 3 = kindOk ps [a, b, c, d, e] 1 := rfl
      have k4 : kindOk ps [e, d, c, b, a] 4 = kindOk ps [a, b, c, d, e] 0 := rfl
      show (kindOk ps [e, d, c, b, a] 0 && (kindOk ps [e, d, c, b, a] 1 && (kindOk ps [e, d, c, b, a] 2 && (kindOk ps [e, d, c, b, a] 3 && (kindOk ps [e, d, c, b, a] 4 && true))))) = (kindOk ps [a, b, c, d, e] 0 && (kindOk ps [a, b, c, d, e] 1 && (kindOk ps [a, b, c, d, e] 2 && (kindOk ps [a, b, c, d, e] 3 && (kindOk ps [a, b, c, d, e] 4 && true)))))
      rw [k0, k1, k2, k3, k4]
      cases kindOk ps [a, b, c, d, e] 0 <;> cases kindOk ps [a, b, c, d, e] 1 <;> cases kindOk ps [a, b, c, d, e] 2 <;> cases kindOk ps [a, b, c, d, e] 3 <;> cases kindOk ps [a, b, c, d, e] 4 <;> rfl
  unfold madeL at h ⊢
  rw [e1, e2, e3]
  exact h

end Go.Proofs.Ytcdilmagcdbogaa

namespace Go.Proofs.Ytcdilmagcdbogaa
set_option linter.unusedVariables false
set_option linter.unusedSimpArgs false
open Go.RowKit

/-- What a place of a board adds to its caliper, in a truth by bytes. -/
def calAt (ps : List Paper) (fs : List Flute) (mp mf truth : List Int) (k : Nat) : Int :=
  if k % 2 = 0 then inL (paperN ps (mp.getD k 0)).tlo (paperN ps (mp.getD k 0)).thi (byteL truth k) else inL (fluteAt fs mf (k / 2)).hlo (fluteAt fs mf (k / 2)).hhi (byteL truth k)

def calTo (ps : List Paper) (fs : List Flute) (mp mf truth : List Int) : Nat → Int
  | 0 => 0
  | k + 1 => calTo ps fs mp mf truth k + calAt ps fs mp mf truth k

def calL (ps : List Paper) (fs : List Flute) (mp mf truth : List Int) : Int := calTo ps fs mp mf truth mp.length

theorem calAt_bd {ps : List Paper} {fs : List Flute} {mp mf truth : List Int} (F : Fine ps fs mp mf) (hT : Bytes truth) {k : Nat} (hk : k < mp.length) : 0 ≤ calAt ps fs mp mf truth k ∧ calAt ps fs mp mf truth k ≤ 10000 := by
  obtain ⟨y0, y1⟩ := byteL_bd hT k
  unfold calAt
  split
  · obtain ⟨n, p, hn, hp, _⟩ := F.pap k hk
    obtain ⟨_, _, _, h3, h4, h5, _⟩ := goodP_iff (F.good n p hp)
    have e : paperN ps (mp.getD k 0) = p := by simp [hn, paperN_eq hp]
    rw [e]
    obtain ⟨a, b⟩ := inL_bd h4 y0 y1
    omega
  · have hm := F.mpl
    obtain ⟨_, _, _, _, g1, g2, g3⟩ := flute_good F (show k / 2 < mf.length by omega)
    obtain ⟨a, b⟩ := inL_bd g2 y0 y1
    omega

theorem calTo_bd {ps : List Paper} {fs : List Flute} {mp mf truth : List Int} (F : Fine ps fs mp mf) (hT : Bytes truth) : ∀ k, k ≤ mp.length → 0 ≤ calTo ps fs mp mf truth k ∧ calTo ps fs mp mf truth k ≤ 10000 * k
  | 0, _ => by simp [calTo]
  | k + 1, hk => by
    obtain ⟨a, b⟩ := calTo_bd F hT k (by omega)
    obtain ⟨c, d⟩ := calAt_bd F hT (show k < mp.length by omega)
    unfold calTo
    omega

end Go.Proofs.Ytcdilmagcdbogaa

namespace Go.Proofs.Ytcdilmagcdbogaa
set_option linter.unusedVariables false
set_option linter.unusedSimpArgs false
open Go.RowKit

def endAt (up : Bool) (ps : List Paper) (fs : List Flute) (mp mf : List Int) (k : Nat) : Int :=
  if k % 2 = 0 then endOf up (paperN ps (mp.getD k 0)).tlo (paperN ps (mp.getD k 0)).thi else endOf up (fluteAt fs mf (k / 2)).hlo (fluteAt fs mf (k / 2)).hhi

def endTo (up : Bool) (ps : List Paper) (fs : List Flute) (mp mf : List Int) : Nat → Int
  | 0 => 0
  | k + 1 => endTo up ps fs mp mf k + endAt up ps fs mp mf k

theorem thickL_eq (up : Bool) {ps : List Paper} {fs : List Flute} {mp mf : List Int} (F : Fine ps fs mp mf) : thickL up ps fs mp mf = endTo up ps fs mp mf mp.length := by
  have h1 := F.f1
  have h2 := F.f2
  have hm := F.mpl
  rcases (show mf.length = 1 ∨ mf.length = 2 by omega) with h | h
  · rw [h] at hm
    unfold thickL
    rw [hm, h]
    simp [thickP, thickF, endTo, endAt, kindL]
    omega
  · rw [h] at hm
    unfold thickL
    rw [hm, h]
    simp [thickP, thickF, endTo, endAt, kindL]
    omega

theorem calAt_ends {ps : List Paper} {fs : List Flute} {mp mf truth : List Int} (F : Fine ps fs mp mf) (hT : Bytes truth) {k : Nat} (hk : k < mp.length) :
    endAt false ps fs mp mf k ≤ calAt ps fs mp mf truth k ∧ calAt ps fs mp mf truth k ≤ endAt true ps fs mp mf k := by
  obtain ⟨y0, y1⟩ := byteL_bd hT k
  unfold calAt endAt
  split
  · obtain ⟨n, p, hn, hp, _⟩ := F.pap k hk
    obtain ⟨_, _, _, h3, h4, h5, _⟩ := goodP_iff (F.good n p hp)
    have e : paperN ps (mp.getD k 0) = p := by simp [hn, paperN_eq hp]
    rw [e]
    exact inL_bd h4 y0 y1
  · have hm := F.mpl
    obtain ⟨_, _, _, _, g1, g2, g3⟩ := flute_good F (show k / 2 < mf.length by omega)
    exact inL_bd g2 y0 y1

theorem calTo_ends {ps : List Paper} {fs : List Flute} {mp mf truth : List Int} (F : Fine ps fs mp mf) (hT : Bytes truth) : ∀ k, k ≤ mp.length →
    endTo false ps fs mp mf k ≤ calTo ps fs mp mf truth k ∧ calTo ps fs mp mf truth k ≤ endTo true ps fs mp mf k
  | 0, _ => by simp [calTo, endTo]
  | k + 1, hk => by
    obtain ⟨a, b⟩ := calTo_ends F hT k (by omega)
    obtain ⟨c, d⟩ := calAt_ends F hT (show k < mp.length by omega)
    unfold calTo endTo
    omega

theorem cal_bd {ps : List Paper} {fs : List Flute} {mp mf truth : List Int} (F : Fine ps fs mp mf) (hT : Bytes truth) :
    thickL false ps fs mp mf ≤ calL ps fs mp mf truth ∧ calL ps fs mp mf truth ≤ thickL true ps fs mp mf := by
  rw [thickL_eq false F, thickL_eq true F]
  exact calTo_ends F hT _ (Nat.le_refl _)

end Go.Proofs.Ytcdilmagcdbogaa

namespace Go.Proofs.Ytcdilmagcdbogaa
set_option linter.unusedVariables false
set_option linter.unusedSimpArgs false
open Go.RowKit

theorem rootL_mono {n m : Int} (h : 0 ≤ n) (hm : n ≤ m) : rootL n ≤ rootL m := by
  obtain ⟨a0, a1, a2⟩ := rootL_spec h
  obtain ⟨b0, b1, b2⟩ := rootL_spec (show 0 ≤ m by omega)
  rcases Int.lt_or_le (rootL m) (rootL n) with h1 | h1
  · exfalso
    have h2 : (rootL m + 1) * (rootL m + 1) ≤ rootL n * rootL n := Int.mul_le_mul (by omega) (by omega) (by omega) (by omega)
    omega
  · exact h1

theorem strongB_mono {ar ar' ru e e' c c' : Int} (u0 : 0 ≤ ru) (e0 : 0 ≤ e) (he : e ≤ e') (c0 : 0 ≤ c) (hc : c ≤ c') (a0 : 0 ≤ ar) (ha : ar ≤ ar') : strongB ar ru e c ≤ strongB ar' ru e' c' := by
  have p0 : 0 ≤ c * ar := Int.mul_nonneg c0 a0
  have p1 : c * ar ≤ c' * ar' := Int.mul_le_mul hc ha a0 (by omega)
  have r := rootL_mono p0 p1
  have r0 := (rootL_spec p0).1
  have q1 : e * rootL (c * ar) ≤ e' * rootL (c' * ar') := Int.mul_le_mul he r r0 (by omega)
  have q2 := Int.mul_le_mul_of_nonneg_right q1 u0
  unfold strongB
  omega

end Go.Proofs.Ytcdilmagcdbogaa

namespace Go.Proofs.Ytcdilmagcdbogaa
set_option linter.unusedVariables false
set_option linter.unusedSimpArgs false
open Go.RowKit

theorem pubIn_any (lo hi y : Int) (l0 : 0 ≤ lo) (lh : lo ≤ hi) (h1 : hi ≤ 1000000) (y0 : 0 ≤ y) (y1 : y ≤ 255) (w : World) :
    Calls Try.prog 109 #[.agg #[.int .i64 lo, .int .i64 hi], .int .i64 y] w fun e w' => e = .returned (.int .i64 (inL lo hi y)) ∧ Gr w w' := by
  have m0 : 0 ≤ y * (hi - lo) := Int.mul_nonneg y0 (by omega)
  have m1 : y * (hi - lo) ≤ 255 * (hi - lo) := Int.mul_le_mul_of_nonneg_right y1 (by omega)
  have hb := inL_bd lh y0 y1
  have q0 : 0 ≤ y * (hi - lo) / 255 := by omega
  have q1 : y * (hi - lo) / 255 ≤ 1000000 := by omega
  go_enter Try.func109, Try.ntmps109
  go_wp2
  go_ret
  exact ⟨rfl, Gr.al _ _⟩

theorem pubByte_anyT (l : List Int) (hl : Bytes l) (i : Nat) (hi : i ≤ 1000) (a : Option Addr) (cap : Nat) (w : World) (hr : URow w a l) :
    Calls Try.prog 103 #[.slice a l.length cap, .int .i64 i] w fun e w' => e = .returned (.int .i64 (byteL l i)) ∧ w = w' := by
  have hm := hr.1
  by_cases h0 : l.length = 0
  · have e : l = [] := List.eq_nil_of_length_eq_zero h0
    subst e
    have E := Lib.hid (show byteL [] i = 0 from rfl)
    clear h0
    simp only [List.length_nil]
    go_enter Try.func103, Try.ntmps103
    go_wp2
    go_ret
    exact ⟨ret_int E.out.symm, rfl⟩
  · have hlt : i % l.length < l.length := Nat.mod_lt _ (by omega)
    obtain ⟨x, hx⟩ := get_of_lt hlt
    obtain ⟨b0, off0, rfl, hb0, hc⟩ := hr.get hx
    obtain ⟨x0, x1⟩ := hl x (List.mem_of_getElem? hx)
    have E := Lib.hid (show byteL l i = x by simp [byteL, hx])
    have hz : ((l.length : Int) == 0) = false := by rw [beq_eq_false_iff_ne]; omega
    have hz2 : ¬ (l.length : Int) = 0 := by omega
    have hi0 : (0 : Int) ≤ (i : Int) % (l.length : Int) := Int.emod_nonneg _ hz2
    have hi1 : (i : Int) % (l.length : Int) < (l.length : Int) := Int.emod_lt_of_pos _ (by omega)
    clear hx hlt h0
    go_enter Try.func103, Try.ntmps103
    go_wp2
    go_ret
    exact ⟨ret_int E.out.symm, rfl⟩

set_option maxHeartbeats 400000 in
/-- A copy of integers. -/
theorem pubInts_anyT (l : List Int) (h0 : 0 < l.length) (hl : l.length ≤ 1000) (a : Option Addr) (cap : Nat) (w : World) (hr : IRow w a l) :
    Calls Try.prog 107 #[.slice a l.length cap] w (IntsPost l w) := by
  obtain ⟨b, off, rfl, hb⟩ := hr.addr h0
  obtain ⟨i0, hi, hz0, hz1, hz2⟩ := info_parts infoInt
  have hr1 := hr.grow (Gr.al w (.cells #[] 3))
  have h1 : 0 + l.length ≤ maxLen := by unfold maxLen; omega
  have h2 : (0 + l.length) * 8 ≤ 140737488355328 := by omega
  have hfl := flat_len (enc := encI) (sz := 1) (fun _ => rfl) l
  have hnews := row_news (enc := encI) (sz := 1) (fun _ => rfl) hr1
  have Hfl := Lib.hid hfl
  have Hnews := Lib.hid hnews
  clear hfl hnews
  go_enter Try.func107, Try.ntmps107
  go_wp2_with (at_builtin; refine wpList_append_own _ rfl _ _ 24 rfl w.heap.size 3 i0 (.int .i64 0) 1 8 Try.underlying24 hi hz0 hz1 hz2 rfl (by decide) _ _ _ rfl (owns_empty w _ _) ⟨b, off, none⟩ l.length cap (l.flatMap encI) rfl Hfl.out Hnews.out (one_flat (fun x u hu => by simp [encI] at hu; subst hu; rfl) l) h1 h2 (by simp) ?_; intro v' w1 hown hgrow _)
  obtain ⟨a', cap', hv, hr2, hn2⟩ := owns_row_new (enc := encI) (l := l) (fun _ => rfl) (by omega) (by simpa using hown)
  subst hv
  have Hr2 := Lib.hid hr2
  have Hn2 := Lib.hid hn2
  clear hr2 hn2 hown
  go_wp2
  go_ret
  exact ⟨a', cap', rfl, (Gr.al w _).grown' (owns_empty w _ 1) (Nat.le_refl _) hgrow, Hr2.out, Hn2.out⟩

end Go.Proofs.Ytcdilmagcdbogaa

namespace Go.Proofs.Ytcdilmagcdbogaa
set_option linter.unusedVariables false
set_option linter.unusedSimpArgs false
open Go.RowKit

set_option maxRecDepth 100000 in
set_option maxHeartbeats 4000000 in
theorem pubCaliper_any (ps : List Paper) (fs : List Flute) (mp mf truth : List Int) (F : Fine ps fs mp mf) (hT : Bytes truth) (pa fa ma ga ta : Option Addr) (pc fc mc gc tc : Nat) (w : World) (hp : PRow w pa ps) (hf : FRow w fa fs) (ha : IRow w ma mp) (hg : IRow w ga mf) (ht : URow w ta truth) :
    Calls Try.prog 68 #[.agg #[.slice pa ps.length pc, .slice fa fs.length fc], .agg #[.slice ma mp.length mc, .slice ga mf.length gc], .slice ta truth.length tc] w fun e w' => e = .returned (.int .i64 (calL ps fs mp mf truth)) ∧ Gr w w' := by
  have gg := (Gr.al w (.cells #[.slice pa ps.length pc, .slice fa fs.length fc] 124)).tr (Gr.al _ (.cells #[.slice ma mp.length mc, .slice ga mf.length gc] 127))
  have hb := (Box.new w [.slice pa ps.length pc, .slice fa fs.length fc] 124 w.heap.size rfl).keep (Gr.al _ (.cells #[.slice ma mp.length mc, .slice ga mf.length gc] 127))
  have hc := Box.new (w.alloc (.cells #[.slice pa ps.length pc, .slice fa fs.length fc] 124)) [.slice ma mp.length mc, .slice ga mf.length gc] 127 (w.heap.size + 1) (by simp)
  have hl1 := hp.1
  have hl2 := hf.1
  have hl3 := ha.1
  have hl4 := hg.1
  have hmp := F.mpl
  have hf2 := F.f2
  have hm5 : mp.length ≤ 5 := by omega
  have Hmp := Lib.hid hmp
  have HF := Lib.hid F
  have HT := Lib.hid hT
  have HE := Lib.hid (show calTo ps fs mp mf truth mp.length = calL ps fs mp mf truth from rfl)
  clear hmp
  go_enter Try.func68, Try.ntmps68
  go_wp2
  refine wp_abs (fun W => Gr w W ∧ Box W w.heap.size [.slice pa ps.length pc, .slice fa fs.length fc] ∧ Box W (w.heap.size + 1) [.slice ma mp.length mc, .slice ga mf.length gc]) ⟨gg, hb, hc⟩ ?_
  clear gg hb hc
  rintro W ⟨gW, hb, hc⟩
  go_loopw [8, 7] (fun i s wr => ∃ k : Nat, k ≤ mp.length ∧ i = .int .i64 k ∧ s = .int .i64 (calTo ps fs mp mf truth k) ∧ Gr w wr ∧ Box wr w.heap.size [.slice pa ps.length pc, .slice fa fs.length fc] ∧ Box wr (w.heap.size + 1) [.slice ma mp.length mc, .slice ga mf.length gc]) (fun i s wr => mp.length - (intOf i).toNat)
  case atStart => exact ⟨0, Nat.zero_le _, rfl, rfl, gW, hb, hc⟩
  case round =>
    clear gW hb hc
    obtain ⟨k, hk, rfl, rfl, gW, hb, hc⟩ := hrel
    obtain ⟨t0, t1⟩ := calTo_bd HF.out HT.out k hk
    by_cases hlt : k < mp.length
    · obtain ⟨a0, a1⟩ := calAt_bd HF.out HT.out hlt
      obtain ⟨y0, y1⟩ := byteL_bd HT.out k
      obtain ⟨q0, q1⟩ := hb.c2
      obtain ⟨q2, q3⟩ := hc.c2
      cases hk1 : ((k : Int) % 2 == 0) with
      | true =>
        have hke : k % 2 = 0 := by have : (k : Int) % 2 = 0 := by simpa using hk1
                                   omega
        obtain ⟨n, x, hn, hx, _⟩ := HF.out.pap k hlt
        obtain ⟨_, _, _, h3, h4, h5, _⟩ := goodP_iff (HF.out.good n x hx)
        have hnl : n < ps.length := (List.getElem?_eq_some_iff.1 hx).1
        have hnI : (n : Int) < (ps.length : Int) := by omega
        have hst : calAt ps fs mp mf truth k = inL x.tlo x.thi (byteL truth k) := by
          have e : paperN ps (mp.getD k 0) = x := by simp [hn, paperN_eq hx]
          unfold calAt
          rw [if_pos hke, e]
        have Hst := Lib.hid hst
        rw [hst] at a0 a1
        obtain ⟨b0, off0, rfl, hb0, r00⟩ := IRow.get ha hn
        obtain ⟨b1, off1, rfl, hb1, _, _, t2, t3, _, _, _, _⟩ := PRow.get hp hx
        have r0 := gW.keep r00
        clear hst hn hx
        have hwr : IntKind.i64.wrap (calTo ps fs mp mf truth k + inL x.tlo x.thi (byteL truth k)) = calTo ps fs mp mf truth k + inL x.tlo x.thi (byteL truth k) := IntWalk.i64_in _ (by omega)
        go_wp2
        clear q0 q1 q2 q3
        have gd := Gr.dr wr
        obtain ⟨q0, q1⟩ := (hb.keep gd).c2
        obtain ⟨q2, q3⟩ := (hc.keep gd).c2
        have r1 := gd.keep r0
        have v2 := gd.keep (gW.keep t2)
        have v3 := gd.keep (gW.keep t3)
        go_region_held3 (fun w' => w'.cell? ⟨w.heap.size, 0, none⟩ = some (.slice (some ⟨b1, off1, none⟩) ps.length pc) ∧ w'.cell? ⟨w.heap.size + 1, 0, none⟩ = some (.slice (some ⟨b0, off0, none⟩) mp.length mc) ∧ w'.cell? ⟨b0, off0 + k, none⟩ = some (.int .i64 n) ∧ w'.cell? ⟨b1, off1 + n * 8 + 2, none⟩ = some (.int .i64 x.tlo) ∧ w'.cell? ⟨b1, off1 + n * 8 + 3, none⟩ = some (.int .i64 x.thi)) (first | exact ⟨q0, q2, r1, v2, v3⟩ | go_keep) (first
          | (go_at_call 103; (refine (pubByte_anyT truth HT.out k (by omega) _ _ _ (ht.grow (gW.tr gd))).mono ?_); rintro e w2 ⟨rfl, rfl⟩)
          | (go_at_call 109; (refine (pubIn_any x.tlo x.thi (byteL truth k) (by omega) h4 (by omega) y0 y1 _).mono ?_); rintro e w3 ⟨rfl, hy⟩; have g3 := gd.tr hy; (obtain ⟨q0, q1⟩ := (hb.keep g3).c2); (obtain ⟨q2, q3⟩ := (hc.keep g3).c2); have r1 := g3.keep r0; have v2 := g3.keep (gW.keep t2); have v3 := g3.keep (gW.keep t3)))
        all_goals
          clear hwr
          go_wp2
          go_roundw
          case rel =>
            exact ⟨k + 1, by omega, by go_num, by show _ = Value.int .i64 (calTo ps fs mp mf truth k + calAt ps fs mp mf truth k); rw [Hst.out], gW.tr g3, hb.keep g3, hc.keep g3⟩
          case measure => simp [intOf]; omega
      | false =>
        have hko : ¬ k % 2 = 0 := by
          have : ¬ (k : Int) % 2 = 0 := by simpa using hk1
          omega
        obtain ⟨n, x, hn, hx, hgx⟩ := HF.out.flu (k / 2) (by have := Hmp.out; omega)
        obtain ⟨_, _, _, _, h3, h4, h5⟩ := goodF_iff hgx
        have hk2l : k / 2 < mf.length := by have := Hmp.out; omega
        have hk2 : (k : Int) / 2 < (mf.length : Int) := by omega
        have hk20 : (0 : Int) ≤ (k : Int) / 2 := by omega
        have hk2n : ((k : Int) / 2).toNat = k / 2 := by omega
        have hk2t : (k : Int).tdiv 2 = (k : Int) / 2 := Int.tdiv_eq_ediv_of_nonneg (by omega)
        have hk2w : IntKind.i64.wrap ((k : Int) / 2) = (k : Int) / 2 := IntWalk.i64_in _ (by omega)
        have hnl : n < fs.length := (List.getElem?_eq_some_iff.1 hx).1
        have hnI : (n : Int) < (fs.length : Int) := by omega
        have hst : calAt ps fs mp mf truth k = inL x.hlo x.hhi (byteL truth k) := by
          unfold calAt
          rw [if_neg hko, fluteAt_eq hn hx]
        have Hst := Lib.hid hst
        rw [hst] at a0 a1
        obtain ⟨b0, off0, rfl, hb0, r00⟩ := IRow.get hg hn
        obtain ⟨b1, off1, rfl, hb1, _, _, t2, t3⟩ := FRow.get hf hx
        have r0 := gW.keep r00
        clear hst hn hx
        have hwr : IntKind.i64.wrap (calTo ps fs mp mf truth k + inL x.hlo x.hhi (byteL truth k)) = calTo ps fs mp mf truth k + inL x.hlo x.hhi (byteL truth k) := IntWalk.i64_in _ (by omega)
        go_wp2
        clear q0 q1 q2 q3
        have gd := Gr.dr wr
        obtain ⟨q0, q1⟩ := (hb.keep gd).c2
        obtain ⟨q2, q3⟩ := (hc.keep gd).c2
        have r1 := gd.keep r0
        have v2 := gd.keep (gW.keep t2)
        have v3 := gd.keep (gW.keep t3)
        go_region_held3 (fun w' => w'.cell? ⟨w.heap.size, 1, none⟩ = some (.slice (some ⟨b1, off1, none⟩) fs.length fc) ∧ w'.cell? ⟨w.heap.size + 1, 1, none⟩ = some (.slice (some ⟨b0, off0, none⟩) mf.length gc) ∧ w'.cell? ⟨b0, off0 + k / 2, none⟩ = some (.int .i64 n) ∧ w'.cell? ⟨b1, off1 + n * 4 + 2, none⟩ = some (.int .i64 x.hlo) ∧ w'.cell? ⟨b1, off1 + n * 4 + 3, none⟩ = some (.int .i64 x.hhi)) (first | exact ⟨q1, q3, r1, v2, v3⟩ | go_keep) (first
          | (go_at_call 103; (refine (pubByte_anyT truth HT.out k (by omega) _ _ _ (ht.grow (gW.tr gd))).mono ?_); rintro e w2 ⟨rfl, rfl⟩)
          | (go_at_call 109; (refine (pubIn_any x.hlo x.hhi (byteL truth k) (by omega) h4 (by omega) y0 y1 _).mono ?_); rintro e w3 ⟨rfl, hy⟩; have g3 := gd.tr hy; (obtain ⟨q0, q1⟩ := (hb.keep g3).c2); (obtain ⟨q2, q3⟩ := (hc.keep g3).c2); have r1 := g3.keep r0; have v2 := g3.keep (gW.keep t2); have v3 := g3.keep (gW.keep t3)))
        all_goals
          clear hwr hk2t hk2w
          go_wp2
          go_roundw
          case rel =>
            exact ⟨k + 1, by omega, by go_num, by show _ = Value.int .i64 (calTo ps fs mp mf truth k + calAt ps fs mp mf truth k); rw [Hst.out], gW.tr g3, hb.keep g3, hc.keep g3⟩
          case measure => simp [intOf]; omega
    · obtain rfl : k = mp.length := by omega
      obtain ⟨q0, q1⟩ := hb.c2
      obtain ⟨q2, q3⟩ := hc.c2
      go_wp2
      go_ret
      exact ⟨ret_int HE.out, gW⟩

end Go.Proofs.Ytcdilmagcdbogaa

namespace Go.Proofs.Ytcdilmagcdbogaa
set_option linter.unusedVariables false
set_option linter.unusedSimpArgs false
open Go.RowKit

theorem RowOf.lit {α : Type} {enc : α → List Value} {sz : Nat} (he : ∀ x, (enc x).length = sz) (w : World) (t : TypeId) (l : List α) (hl : l.length ≤ 9223372036854775807) (cs : Array Value) (hcs : cs = (l.flatMap enc).toArray) (n : Nat) (hn : n = w.heap.size) : RowOf sz enc (w.alloc (.cells cs t)) (some ⟨n, 0, none⟩) l := by
  subst hn hcs
  refine ⟨hl, fun j x hx => ⟨w.heap.size, 0, rfl, by simp, fun i v hv => ?_⟩⟩
  have hf := flat_get he l j i x v hx hv
  refine new_cell w _ t ?_
  simpa using hf

def ps0 : List Paper := [⟨1, 200, 250, 270, 60, 80, 400000, 300⟩, ⟨2, 120, 180, 190, 70, 90, 300000, 200⟩]

def fs0 : List Flute := [⟨8000, 12000, 3600, 3700⟩]

def mp0 : List Int := [0, 1, 0]

def mf0 : List Int := [0]

theorem made0 : madeL ps0 fs0 mp0 mf0 = 0 := by decide +kernel

theorem wn0 : weighN ps0 fs0 mp0 mf0 = 580 := by decide +kernel

theorem wd0 : weighD ps0 fs0 mp0 mf0 = 1 := by decide +kernel

theorem tl0 : thickL false ps0 fs0 mp0 mf0 = 4100 := by decide +kernel

theorem th0 : thickL true ps0 fs0 mp0 mf0 = 4240 := by decide +kernel

theorem measure0 (pa fa ma ga : Option Addr) (w : World) (hp : PRow w pa ps0) (hf : FRow w fa fs0) (ha : IRow w ma mp0) (hg : IRow w ga mf0) :
    Calls Try.prog 62 #[.agg #[.slice pa 2 2, .slice fa 1 1], .agg #[.slice ma 3 3, .slice ga 1 1]] w fun e w' => ∃ m0 m1, e = .returned (.tuple #[.agg #[.int .i64 m0, .int .i64 m1], .agg #[.int .i64 4100, .int .i64 4240], .int .i64 0]) ∧ Gr w w' := by
  have h := measureF_ok ps0 fs0 mp0 mf0 pa fa ma ga 2 1 3 1 w hp hf ha hg made0
  rw [tl0, th0] at h
  exact h.mono fun e w' hh => ⟨_, _, hh⟩

end Go.Proofs.Ytcdilmagcdbogaa

namespace Go.Proofs.Ytcdilmagcdbogaa
set_option linter.unusedVariables false
set_option linter.unusedSimpArgs false
open Go.RowKit

theorem ml0 : moistL false ps0 fs0 mp0 mf0 = 616 := by decide +kernel

theorem mh0 : moistL true ps0 fs0 mp0 mf0 = 628 := by decide +kernel

theorem st0 : strongL ps0 fs0 mp0 mf0 = 900 := by decide +kernel

theorem measure1 (pa fa ma ga : Option Addr) (w : World) (hp : PRow w pa ps0) (hf : FRow w fa fs0) (ha : IRow w ma mp0) (hg : IRow w ga mf0) :
    Calls Try.prog 62 #[.agg #[.slice pa 2 2, .slice fa 1 1], .agg #[.slice ma 3 3, .slice ga 1 1]] w fun e w' => e = .returned (.tuple #[.agg #[.int .i64 616, .int .i64 628], .agg #[.int .i64 4100, .int .i64 4240], .int .i64 0]) ∧ Gr w w' := by
  have h := measureF_ok ps0 fs0 mp0 mf0 pa fa ma ga 2 1 3 1 w hp hf ha hg made0
  rw [tl0, th0, ml0, mh0] at h
  exact h

theorem strength1 (pa fa ma ga : Option Addr) (w : World) (hp : PRow w pa ps0) (hf : FRow w fa fs0) (ha : IRow w ma mp0) (hg : IRow w ga mf0) :
    Calls Try.prog 65 #[.agg #[.slice pa 2 2, .slice fa 1 1], .agg #[.slice ma 3 3, .slice ga 1 1]] w fun e w' => e = .returned (.tuple #[.int .i64 900, .int .i64 0]) ∧ Gr w w' := by
  have h := strengthF_ok ps0 fs0 mp0 mf0 pa fa ma ga 2 1 3 1 w hp hf ha hg made0
  rw [st0] at h
  exact h

end Go.Proofs.Ytcdilmagcdbogaa

namespace Go.Proofs.Ytcdilmagcdbogaa
set_option linter.unusedVariables false
set_option linter.unusedSimpArgs false
open Go.RowKit

theorem armSpan_anyT (a b : Int) (w : World) :
    Calls Try.prog 67 #[.int .i64 a, .int .i64 b] w fun e w' => e = .returned (.agg #[.int .i64 a, .int .i64 b]) ∧ Gr w w' := by
  go_enter Try.func67, Try.ntmps67
  go_wp2
  exact bodyPost_ret (v := .agg #[.int .i64 a, .int .i64 b]) (by simp [results, Try.results67, go_sem]) rfl ⟨rfl, Gr.al _ _⟩

end Go.Proofs.Ytcdilmagcdbogaa

namespace Go.Proofs.Ytcdilmagcdbogaa
set_option linter.unusedVariables false
set_option linter.unusedSimpArgs false
open Go.RowKit

set_option maxRecDepth 100000 in
set_option maxHeartbeats 1000000 in
theorem pubMade_any (mp mf : List Int) (m0 : 0 < mp.length) (m1 : mp.length ≤ 1000) (n0 : 0 < mf.length) (n1 : mf.length ≤ 1000) (a f : Option Addr) (ac fc : Nat) (w : World) (ha : IRow w a mp) (hf : IRow w f mf) :
    Calls Try.prog 64 #[.agg #[.slice a mp.length ac, .slice f mf.length fc]] w (MadePost mp mf w) := by
  have gg := (Gr.al w (.cells #[.slice a mp.length ac, .slice f mf.length fc] 127)).tr (Gr.al _ (.cells #[.slice none 0 0, .slice none 0 0] 127))
  have hb := (Box.new w [.slice a mp.length ac, .slice f mf.length fc] 127 w.heap.size rfl).keep (Gr.al _ (.cells #[.slice none 0 0, .slice none 0 0] 127))
  have ob := Own.new (w.alloc (.cells #[.slice a mp.length ac, .slice f mf.length fc] 127)) [.slice none 0 0, .slice none 0 0] 127 (w.heap.size + 1) (by simp)
  go_enter Try.func64, Try.ntmps64
  go_wp2
  refine wp_abs (fun W => Gr w W ∧ Box W w.heap.size [.slice a mp.length ac, .slice f mf.length fc] ∧ Own W (w.heap.size + 1) [.slice none 0 0, .slice none 0 0]) ⟨gg, hb, ob⟩ ?_
  clear gg hb ob
  rintro W ⟨gg, hb, ob⟩
  have gX := Gr.dr W
  obtain ⟨q0, q1⟩ := (hb.keep gX).c2
  have tok1 : True := trivial
  go_region_held3 (fun w' => w'.cell? ⟨w.heap.size, 0, none⟩ = some (.slice a mp.length ac) ∧ w'.cell? ⟨w.heap.size, 1, none⟩ = some (.slice f mf.length fc)) (first | exact ⟨q0, q1⟩ | go_keep) (first
    | (go_at_call 107; have _t := tok1; (refine (pubInts_anyT mp m0 m1 a ac _ (ha.grow (gg.tr gX))).mono ?_); clear tok1 _t; rintro e w2 ⟨a', ac', rfl, hx, ra, na⟩; have na2 := na.le (show w.heap.size + 2 ≤ _ by have := gX.size; have := ob.1.1; omega); replace gX := gX.tr hx; obtain ⟨q0, q1⟩ := (hb.keep gX).c2)
    | (go_at_call 107; (refine (pubInts_anyT mf n0 n1 f fc _ (hf.grow (gg.tr gX))).mono ?_); rintro e w3 ⟨f', fc', rfl, hy, rf, nf⟩; have nf2 := nf.le (show w.heap.size + 2 ≤ _ by have := gX.size; have := ob.1.1; omega); replace gX := gX.tr hy; (obtain ⟨q0, q1⟩ := (hb.keep gX).c2); have ob2 := ob.keep gX; (obtain ⟨u0, u1⟩ := ob2.1.c2); have z0 := ob2.2 0; have z1 := ob2.2 1))
  all_goals
    go_wp2
    refine bodyPost_ret (v := .agg #[.slice a' mp.length ac', .slice f' mf.length fc']) (by simp [results, Try.results64, go_sem, u0, u1]) rfl ⟨a', ac', f', fc', rfl, ((gg.tr gX).setCell (by simp) _).setCell (by simp) _, ?_, ?_, na2.le (by omega), nf2.le (by omega)⟩
    · exact ((ra.grow hy).other na2 (by omega)).other na2 (by omega)
    · exact (rf.other nf2 (by omega)).other nf2 (by omega)

end Go.Proofs.Ytcdilmagcdbogaa

namespace Go.Proofs.Ytcdilmagcdbogaa
set_option linter.unusedVariables false
set_option linter.unusedSimpArgs false
open Go.RowKit

set_option maxRecDepth 100000 in
set_option maxHeartbeats 4000000 in
theorem pubOwn_any (ps : List Paper) (fs : List Flute) (m0 : 0 < ps.length) (m1 : ps.length ≤ 1000) (n0 : 0 < fs.length) (n1 : fs.length ≤ 1000) (pa fa : Option Addr) (pc fc : Nat) (w : World) (hp : PRow w pa ps) (hf : FRow w fa fs) :
    Calls Try.prog 63 #[.agg #[.slice pa ps.length pc, .slice fa fs.length fc]] w (StorePost ps fs w) := by
  obtain ⟨b1, o1, rfl, hb1⟩ := hp.addr m0
  obtain ⟨b2, o2, rfl, hb2⟩ := hf.addr n0
  obtain ⟨ip, hip, hpz0, hpz1, hpz2⟩ := info_parts infoPaper
  obtain ⟨jf, hjf, hfz0, hfz1, hfz2⟩ := info_parts infoFlute
  have gg := (Gr.al w (.cells #[.slice (some ⟨b1, o1, none⟩) ps.length pc, .slice (some ⟨b2, o2, none⟩) fs.length fc] 124)).tr (Gr.al _ (.cells #[.slice none 0 0, .slice none 0 0] 124))
  have hb := (Box.new w [.slice (some ⟨b1, o1, none⟩) ps.length pc, .slice (some ⟨b2, o2, none⟩) fs.length fc] 124 w.heap.size rfl).keep (Gr.al _ (.cells #[.slice none 0 0, .slice none 0 0] 124))
  have ob := Own.new (w.alloc (.cells #[.slice (some ⟨b1, o1, none⟩) ps.length pc, .slice (some ⟨b2, o2, none⟩) fs.length fc] 124)) [.slice none 0 0, .slice none 0 0] 124 (w.heap.size + 1) (by simp)
  go_enter Try.func63, Try.ntmps63
  go_wp2
  refine wp_abs (fun W => Gr w W ∧ Box W w.heap.size [.slice (some ⟨b1, o1, none⟩) ps.length pc, .slice (some ⟨b2, o2, none⟩) fs.length fc] ∧ Own W (w.heap.size + 1) [.slice none 0 0, .slice none 0 0]) ⟨gg, hb, ob⟩ ?_
  clear gg hb ob
  rintro W ⟨gg, hb, ob⟩
  have hW := ob.1.1
  have gX := Gr.dr W
  obtain ⟨q0, q1⟩ := (hb.keep gX).c2
  have gA := (Gr.al W (.cells #[] 174)).tr (Gr.dr _)
  have gB := ((Gr.al W (.cells #[] 174)).tr (Gr.al _ (.cells #[] 176))).tr (Gr.dr _)
  have gC := ((Gr.al W (.cells #[] 176)).tr (Gr.al _ (.cells #[] 174))).tr (Gr.dr _)
  have oA := owns_keep (owns_empty W 174 8) (Gr.dr _)
  have oB := owns_keep (owns_empty W 174 8) ((Gr.al _ (.cells #[] 176)).tr (Gr.dr _))
  have oC : (((W.alloc (.cells #[] 176)).alloc (.cells #[] 174)).drew).ownsRow W.heap.size 174 8 (.slice (some ⟨W.heap.size + 1, 0, none⟩) 0 0) 0 [] := by
    have h := owns_keep (owns_empty (W.alloc (.cells #[] 176)) 174 8) (Gr.dr _)
    rw [show (W.alloc (.cells #[] 176)).heap.size = W.heap.size + 1 by simp] at h
    exact owns_base h (by omega)
  have pB := owns_keep (owns_base (base' := W.heap.size) (owns_empty (W.alloc (.cells #[] 174)) 176 4) (by simp)) (Gr.dr _)
  rw [show (W.alloc (.cells #[] 174)).heap.size = W.heap.size + 1 by simp] at pB
  have pC := owns_keep (owns_empty W 176 4) ((Gr.al _ (.cells #[] 174)).tr (Gr.dr _))
  have hfl1 := flat_len (enc := encP) (sz := 8) (fun _ => rfl) ps
  have hfl2 := flat_len (enc := encF) (sz := 4) (fun _ => rfl) fs
  have Hfl1 := Lib.hid hfl1
  have Hfl2 := Lib.hid hfl2
  have k1 : 0 + ps.length ≤ maxLen := by unfold maxLen; omega
  have k2 : (0 + ps.length) * 64 ≤ 140737488355328 := by omega
  have k3 : 0 + fs.length ≤ maxLen := by unfold maxLen; omega
  have k4 : (0 + fs.length) * 32 ≤ 140737488355328 := by omega
  clear hfl1 hfl2
  go_region_held3 (fun w' => w'.cell? ⟨w.heap.size, 0, none⟩ = some (.slice (some ⟨b1, o1, none⟩) ps.length pc) ∧ w'.cell? ⟨w.heap.size, 1, none⟩ = some (.slice (some ⟨b2, o2, none⟩) fs.length fc)) (first | exact ⟨q0, q1⟩ | exact (hb.keep gA).c2 | exact (hb.keep gB).c2 | exact (hb.keep gC).c2 | exact (hb.keep ((Gr.al W (.cells #[] 176)).tr (Gr.dr _))).c2 | go_keep) (first
    | ((refine step_append_lies _ (by rfl) _ _ 121 (by rfl) W.heap.size 174 ip _ 8 64 Try.underlying121 hip hpz0 hpz1 hpz2 rfl (by omega) _ 0 [] (by rfl) ?_ ⟨b1, o1, none⟩ ps.length pc (ps.flatMap encP) (by rfl) Hfl1.out (row_news (enc := encP) (sz := 8) (fun _ => rfl) ?_) (one_flat oneP ps) m0 k1 k2 ?_ _ rfl ?_);
        (first | exact oA | exact oB | exact oC); (first | exact hp.grow (gg.tr gA) | exact hp.grow (gg.tr gB) | exact hp.grow (gg.tr gC)); (first | exact gA.size | exact gB.size | exact gC.size);
        intro g1 cap1 w1 hown1 hgr1 hat1 hlt1; have gY : Gr W w1 := (by first | exact gA.grown' oA (Nat.le_refl _) hgr1 | exact gB.grown' oB (Nat.le_refl _) hgr1 | exact gC.grown' oC (Nat.le_refl _) hgr1); obtain ⟨q0, q1⟩ := (hb.keep gY).c2)
    | ((refine step_append_lies _ (by rfl) _ _ 122 (by rfl) W.heap.size 176 jf _ 4 32 Try.underlying122 hjf hfz0 hfz1 hfz2 rfl (by omega) _ 0 [] (by rfl) ?_ ⟨b2, o2, none⟩ fs.length fc (fs.flatMap encF) (by rfl) Hfl2.out (row_news (enc := encF) (sz := 4) (fun _ => rfl) ?_) (one_flat oneF fs) n0 k3 k4 ?_ _ rfl ?_);
        (first | exact owns_base (owns_empty w1 _ _) gY.size | exact pB.kept hgr1 (.inr (fun e => absurd (Option.some.inj (show some (W.heap.size + 1) = some W.heap.size from e)) (by omega))) | exact pC.kept hgr1 (.inr (fun e => absurd (Option.some.inj (show some W.heap.size = some (W.heap.size + 1) from e)) (by omega))));
        (first | exact hf.grow (gg.tr gY) | exact hf.grow (gg.tr (gY.tr (Gr.al _ _)))); (first | exact gY.size | exact (gY.tr (Gr.al _ _)).size);
        intro g2 cap2 w2 hown2 hgr2 hat2 hlt2; have gZ : Gr W w2 := (by first | exact gY.grown' (pB.kept hgr1 (.inr (fun e => absurd (Option.some.inj (show some (W.heap.size + 1) = some W.heap.size from e)) (by omega)))) (Nat.le_refl _) hgr2 | exact gY.grown' (pC.kept hgr1 (.inr (fun e => absurd (Option.some.inj (show some W.heap.size = some (W.heap.size + 1) from e)) (by omega)))) (Nat.le_refl _) hgr2 | exact (gY.tr (Gr.al _ _)).grown' (owns_base (owns_empty w1 176 4) gY.size) (Nat.le_refl _) hgr2);
        (obtain ⟨q0, q1⟩ := (hb.keep gZ).c2);
        have hown1' : w2.ownsRow W.heap.size 174 8 (.slice (some ⟨g1, 0, none⟩) (0 + ps.length) cap1) (0 + ps.length) ([] ++ ps.flatMap encP) := (by first
          | exact (hown1.alloc _).kept hgr2 (.inr (fun e => Nat.ne_of_lt hlt1 (Option.some.inj (show some g1 = some w1.heap.size from e))))
          | exact hown1.kept hgr2 (.inr (fun e => ne_of_at (x := W.heap.size) (y := W.heap.size + 1) hat1 (by omega) (by simp <;> omega) (Option.some.inj (show some g1 = some (W.heap.size + 1) from e))))
          | exact hown1.kept hgr2 (.inr (fun e => ne_of_at (x := W.heap.size + 1) (y := W.heap.size) hat1 (by omega) (by simp <;> omega) (Option.some.inj (show some g1 = some W.heap.size from e)))));
        have ob2 := ob.keep gZ; (obtain ⟨u0, u1⟩ := ob2.1.c2); have z0 := ob2.2 0; have z1 := ob2.2 1))
  all_goals
    obtain ⟨a1, c1, hv1, r1, n1'⟩ := owns_row_new (enc := encP) (l := ps) (fun _ => rfl) (by omega) (by simpa using hown1')
    obtain ⟨a2, c2, hv2, r2, n2'⟩ := owns_row_new (enc := encF) (l := fs) (fun _ => rfl) (by omega) (by simpa using hown2)
    rw [hv1, hv2]
    have R1 := Lib.hid r1
    have R2 := Lib.hid r2
    have N1 := Lib.hid n1'
    have N2 := Lib.hid n2'
    clear hv1 hv2 r1 r2 n1' n2' hown1 hown1' hown2 oA oB oC pB pC hat1 hat2 hgr1 hgr2
    go_wp2
    refine bodyPost_ret (v := .agg #[.slice a1 ps.length c1, .slice a2 fs.length c2]) (by simp [results, Try.results63, go_sem, u0, u1]) rfl ⟨a1, c1, a2, c2, rfl, ((gg.tr gZ).setCell (by simp) _).setCell (by simp) _, ?_, ?_, N1.out.le (by omega), N2.out.le (by omega)⟩
    · exact (R1.out.other N1.out hW).other N1.out hW
    · exact (R2.out.other N2.out hW).other N2.out hW

end Go.Proofs.Ytcdilmagcdbogaa
