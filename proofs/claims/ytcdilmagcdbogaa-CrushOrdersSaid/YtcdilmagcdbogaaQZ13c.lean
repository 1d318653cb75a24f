/- A law's end: it returned true and the world only grew. And: what an argument is that is made of integers of one kind. Contracts of pubMade, pubSingle, pubDouble. Contract of pubOwn: a copy of a store. Contract of pubStore. The contract of armStore. (Made by gen_arm1.py.) What an argument is that is a slice of small arrays of bytes; a struct of three slices. A lot that comes in. Boxes, stacks and tables that come in. -/
import Derived.ProofKit
import Derived.OpenShut
import Derived.Test.YtcdilmagcdbogaaQI33a
import Derived.ChangeSame
import Derived.Carry
import Derived.Deep.AppendLies
import Derived.Deep.RegionHeld3
import Derived.Test.YtcdilmagcdbogaaQZ13a
import Derived.Deep.QuietTactic
import Derived.BigQuiet
import Derived.Deep.CutRange
import Derived.Deep.DeepCutAuto
import Derived.Test.YtcdilmagcdbogaaQI33c
import Derived.Deep.MidRow
namespace Go.Proofs.Ytcdilmagcdbogaa
set_option linter.unusedVariables false
set_option linter.unusedSimpArgs false
open Go.RowKit Go.ChangeShapes

section
variable {H : Type} {enc : TypeId × Value → H} {P : Program} {W W' : World}

theorem trodAll_stays (hl : laidOutB P = true) (g : Gr W W') {sp : Nat → Bool} : ∀ (ts : List TypeId) (vs : List Value) (ds : List (DataW H)) (ps : List MemPlace), (∀ t ∈ ts, P.readableRec t = true ∧ t < P.types.size) →
    DataW.TrodAll enc P W 0 (fun _ => true) true ts vs ds ps → (∀ p ∈ ps, p.block < W.heap.size) → (∀ p ∈ ps, sp p.block = true) → DataW.TrodAll enc P W' 0 sp true ts vs ds ps
  | [], [], [], _, _, h, _, _ => h
  | t :: ts, v :: vs, d :: ds, ps, ht, h, hlt, hsp => by
    obtain ⟨p, q, h1, h2, rfl⟩ := h
    exact ⟨p, q, WideElems.Trod_stays hl (ht t (by simp)).1 (ht t (by simp)).2 h1 (fun x hx => g.same (hlt x (by simp [hx]))) (fun x hx => hsp x (by simp [hx])),
      trodAll_stays hl g ts vs ds q (fun u hu => ht u (by simp [hu])) h2 (fun x hx => hlt x (by simp [hx])) (fun x hx => hsp x (by simp [hx])), rfl⟩

/-- A law that returned true in a world that only grew, its arguments as they were. -/
theorem law_true {f : Func} {s : ChangeSpec} {bt : TypeId} {args : Array Value} {ds : List (DataW H)} {p : List MemPlace}
    (hl : laidOutB P = true) (hpt : ∀ t ∈ f.params.toList, P.readableRec t = true ∧ t < P.types.size) (hbt : P.underlying bt = some .bool) (hrt : f.resultTypes = #[bt]) (hsv : s.vars = [])
    (hs : s.fn H ds = { results := [.lit (.bool true)], args := ds })
    (hW : DataW.Whole enc P f.params.toList s.vars false W args.toList ds [] p) (g : Gr W W') :
    s.post enc P f false true false false W args (.bool true) W' := by
  have hW0 := hW
  obtain ⟨pa, pv, hA, hV, hp, hfz, hnd⟩ := hW0
  rw [hsv] at hV
  have hpv : pv = [] := hV
  subst hpv
  rw [List.append_nil] at hp
  subst hp
  have hold : ∀ x ∈ p, x.block < W.heap.size := fun x hx => hW.lt x hx
  have hargs : ∀ sp : Nat → Bool, (∀ x ∈ p, sp x.block = true) → DataW.TrodAll enc P W' 0 sp true f.params.toList args.toList ds p := fun sp hsp => trodAll_stays hl g _ _ _ _ hpt hA hold hsp
  have hres : ∀ (b : Nat) (sp : Nat → Bool) (hd : Bool), DataW.TrodAll enc P W' b sp hd f.resultTypes.toList ((Value.bool true).resultList f.resultTypes.size) [.lit (.bool true)] [] := fun b sp hd => by
    rw [hrt]
    exact trodAll_cons_mk (shut_bool hbt _) trodAll_mk0
  have hok : ∀ (j : Nat) (t : TypeId) (r : Value), f.resultTypes[j]? = some t → ((Value.bool true).resultList f.resultTypes.size)[j]? = some r → Value.okWide P W' .any 0 t r := ok_one hrt rfl (okWide_bool_mk hbt _)
  have es : s.fn H (ds ++ []) = { results := [.lit (.bool true)], args := ds } := by rw [List.append_nil]; exact hs
  have hsp0 : ∀ x ∈ p, (fun b => decide (b < W.heap.size)) x.block = true := fun x hx => by simpa using hold x hx
  refine ⟨ds, [], p, [], p, [], hW, ?_, ?_, ?_, World.keptBut_mono (fun x hx => hx.elim) (g.frame (fun _ => False)), fun _ => ?_⟩
  · rw [es]; exact hres _ _ _
  · rw [es]; exact hargs _ hsp0
  · rw [es, hsv]; rfl
  · refine ⟨hok, [.lit (.bool true)] ++ ds, [], ([] ++ p) ++ [], ⟨[] ++ p, [], trodAll_append (hargs (fun _ => true) (fun _ _ => rfl)) (hres _ _ _), ?_, rfl, ?_, ?_⟩, ?_⟩
    · rw [hsv]; rfl
    · intro b off hx
      have hx' : MemPlace.cell b off ∈ p := by simpa using hx
      have hb : b < W.heap.size := hold _ hx'
      rw [g.frozen (p := ⟨b, off, none⟩) hb]
      exact hfz b off hx'
    · intro ha
      cases ha
    · intro x hx _
      simpa using hx

/-- Made of integers of kind k alone, cell by cell: by looking. -/
def allK (P : Program) (k : IntKind) : Nat → TypeId → Bool
  | 0, _ => false
  | f + 1, t => match P.underlying t with
    | some (.int k') => decide (k' = k) && decide (P.cellsOf t = 1)
    | some (.struct fs) => fs.toList.all (fun x => allK P k f x.type) && (List.range (P.cellsOf t)).all fun i => fs.toList.any fun x => decide (x.offset ≤ i) && decide (i < x.offset + P.cellsOf x.type)
    | some (.array n e) => allK P k f e && (List.range (P.cellsOf t)).all fun i => (List.range n).any fun j => decide (j * P.cellsOf e ≤ i) && decide (i < j * P.cellsOf e + P.cellsOf e)
    | _ => false

theorem piece {cs : List Value} {o n i : Nat} (h1 : o ≤ i) (h2 : i < o + n) : ((cs.drop o).take n)[i - o]? = cs[i]? := by
  rw [List.getElem?_take_of_lt (by omega), List.getElem?_drop, show o + (i - o) = i by omega]

theorem mapM_at {α β : Type} {f : α → Option β} : ∀ (l : List α) (ys : List β), l.mapM f = some ys → ∀ a ∈ l, ∃ y, f a = some y
  | [], _, _, a, ha => by cases ha
  | b :: l, ys, h, a, ha => by
    rw [List.mapM_cons] at h
    cases h1 : f b with
    | none => simp [h1] at h
    | some y =>
      cases h2 : l.mapM f with
      | none => simp [h1, h2] at h
      | some zs =>
        rcases List.mem_cons.1 ha with rfl | ha
        · exact ⟨y, h1⟩
        · exact mapM_at l zs h2 a ha

theorem int_open {k : IntKind} {base : Nat} {sp : Nat → Bool} {held : Bool} {t : TypeId} (hu : P.underlying t = some (.int k)) {fuel : Nat} {cs : List Value} {x : DataW H × List MemPlace} (hx : DataW.trod enc P W base sp held fuel t cs = some x) :
    ∃ n, cs = [.int k n] ∧ (Lit.int k n).wf = true := by
  obtain ⟨n, e, _, hw⟩ := DataW.trod_int hu hx
  exact ⟨n, e, hw⟩

theorem allK_open {k : IntKind} {base : Nat} {sp : Nat → Bool} {held : Bool} : ∀ (f : Nat) (t : TypeId), allK P k f t = true → ∀ (fuel : Nat) (cs : List Value) (x : DataW H × List MemPlace), DataW.trod enc P W base sp held fuel t cs = some x →
    cs.length = P.cellsOf t ∧ ∀ i, i < cs.length → ∃ n, cs[i]? = some (.int k n) ∧ (Lit.int k n).wf = true
  | 0, _, h, _, _, _, _ => by simp [allK] at h
  | f + 1, t, h, 0, cs, x, hx => by simp [DataW.trod] at hx
  | f + 1, t, h, fuel + 1, cs, x, hx => by
    unfold allK at h
    split at h
    · rename_i k' hu
      simp only [Bool.and_eq_true, decide_eq_true_eq] at h
      obtain ⟨rfl, hc⟩ := h
      obtain ⟨n, rfl, hw⟩ := int_open hu hx
      refine ⟨by rw [hc]; rfl, fun i hi => ?_⟩
      obtain rfl : i = 0 := by simpa using hi
      exact ⟨n, rfl, hw⟩
    · rename_i fs hu
      simp only [Bool.and_eq_true] at h
      obtain ⟨ha, hcov⟩ := h
      unfold DataW.trod at hx
      rw [hu] at hx
      simp only at hx
      split at hx
      case isFalse => cases hx
      rename_i hl
      refine ⟨hl, fun i hi => ?_⟩
      obtain ⟨xs, hxs, _⟩ := Option.map_eq_some_iff.1 hx
      have hci := List.all_eq_true.1 hcov i (by simp; omega)
      obtain ⟨fd, hfd, hin⟩ := List.any_eq_true.1 hci
      simp only [Bool.and_eq_true, decide_eq_true_eq] at hin
      obtain ⟨y, hy⟩ := mapM_at _ _ hxs fd hfd
      obtain ⟨hl', hat⟩ := allK_open f fd.type (List.all_eq_true.1 ha fd hfd) fuel _ y hy
      obtain ⟨n, hn, hw⟩ := hat (i - fd.offset) (by rw [hl']; omega)
      rw [piece hin.1 hin.2] at hn
      exact ⟨n, hn, hw⟩
    · rename_i m e hu
      simp only [Bool.and_eq_true] at h
      obtain ⟨ha, hcov⟩ := h
      unfold DataW.trod at hx
      rw [hu] at hx
      simp only at hx
      split at hx
      case isFalse => cases hx
      rename_i hl
      refine ⟨hl, fun i hi => ?_⟩
      obtain ⟨xs, hxs, _⟩ := Option.map_eq_some_iff.1 hx
      have hci := List.all_eq_true.1 hcov i (by simp; omega)
      obtain ⟨j, hj, hin⟩ := List.any_eq_true.1 hci
      simp only [Bool.and_eq_true, decide_eq_true_eq] at hin
      obtain ⟨y, hy⟩ := mapM_at _ _ hxs j hj
      obtain ⟨hl', hat⟩ := allK_open f e ha fuel _ y hy
      obtain ⟨n, hn, hw⟩ := hat (i - j * P.cellsOf e) (by rw [hl']; omega)
      rw [piece hin.1 hin.2] at hn
      exact ⟨n, hn, hw⟩
    · cases h

theorem ints_of {k : IntKind} : ∀ (cs : List Value), (∀ i, i < cs.length → ∃ n, cs[i]? = some (.int k n) ∧ (Lit.int k n).wf = true) → ∃ l : List Int, cs = l.map (Value.int k) ∧ ∀ n ∈ l, (Lit.int k n).wf = true
  | [], _ => ⟨[], rfl, by simp⟩
  | c :: cs, h => by
    obtain ⟨n, hn, hw⟩ := h 0 (by simp)
    obtain ⟨l, rfl, hl⟩ := ints_of cs (fun i hi => by simpa using h (i + 1) (by simpa using hi))
    simp only [List.getElem?_cons_zero, Option.some.injEq] at hn
    subst hn
    refine ⟨n :: l, rfl, fun m hm => ?_⟩
    rcases List.mem_cons.1 hm with rfl | hm
    · exact hw
    · exact hl m hm

/-- A struct or array by value, of integers of one kind: its integers. -/
theorem agg_ints {k : IntKind} {base : Nat} {sp : Nat → Bool} {held : Bool} {f : Nat} {t : TypeId} (ha : allK P k f t = true) (hc : P.cellsOf t ≠ 1) {v : Value} {d : DataW H} {ps : List MemPlace} (h : DataW.Trod enc P W base sp held t v d ps) :
    ∃ l : List Int, v = .agg (l.map (Value.int k)).toArray ∧ l.length = P.cellsOf t ∧ ∀ n ∈ l, (Lit.int k n).wf = true := by
  obtain ⟨fuel, hf⟩ := h
  obtain ⟨hl, hat⟩ := allK_open f t ha fuel _ _ hf
  obtain ⟨l, hcs, hw⟩ := ints_of _ hat
  have hlen : l.length = P.cellsOf t := by rw [← hl, hcs]; simp
  refine ⟨l, ?_, hlen, hw⟩
  unfold Value.cells at hcs hl
  split at hcs
  · rename_i cs
    rw [← hcs]
  · rename_i hna
    exfalso
    apply hc
    rw [← hlen]
    have := congrArg List.length hcs
    simpa using this.symm

/-- A slice of bytes that came in. -/
theorem row_bytes {e : TypeId} {t : TypeId} {r : Reach} {b0 : Nat} (ht : P.underlying t = some (.slice e)) (he : P.underlying e = some (.int .u8)) (hc : P.cellsOf e = 1) {v : Value} {d : DataW H} {ps : List MemPlace} (hval : Value.okWide P W r b0 t v)
    (h : DataW.Trod enc P W 0 (fun _ => true) true t v d ps) :
    ∃ (a : Option Addr) (l : List Int) (cap : Nat), v = .slice a l.length cap ∧ URow W a l ∧ Bytes l := by
  obtain ⟨fuel, hf⟩ := h
  obtain ⟨a0, len0, cap0, rfl⟩ := Go.WideShapes.okWide_slice ht hval
  rcases open_ints ht he hc hf with ⟨hcs, _⟩ | ⟨a, len, cap, zs, hcs, _, hle, hmax, hlen, _, hcell, hwf⟩
  · have hcs' : [Value.slice a0 len0 cap0] = [.slice none 0 0] := by simpa [Value.cells] using hcs
    cases hcs'
    exact ⟨none, [], 0, rfl, RowOf.nil, fun x hx => by cases hx⟩
  · have hcs' : [Value.slice a0 len0 cap0] = [.slice (some a) len cap] := by simpa [Value.cells] using hcs
    cases hcs'
    simp only [if_true] at hlen
    have hl : (zs.take len0).length = len0 := by simp; omega
    refine ⟨some a, zs.take len0, cap0, by rw [hl], ⟨by rw [hl]; exact Nat.le_trans hle hmax, fun j x hx => ?_⟩, fun x hx => bounds_u8 (hwf x (List.mem_of_mem_take hx))⟩
    have hj : j < len0 := by
      have := (List.getElem?_eq_some_iff.1 hx).1
      omega
    have hz : zs[j]? = some x := by
      rw [List.getElem?_take_of_lt hj] at hx
      exact hx
    have h0 := hcell 0 (by omega)
    rw [show a.add 0 = a by simp [Addr.add]] at h0
    have hb := World.block_lt_of_cell? W _ h0
    have hs : a.spot = none := by
      cases hsp : a.spot with
      | none => rfl
      | some q =>
        exfalso
        unfold World.cell? at h0
        split at h0
        · simp [hsp] at h0
        · cases h0
    obtain ⟨b, off, sp⟩ := a
    simp only at hs
    subst hs
    have h1 := hcell j (by omega)
    have e1 : zs.getD j 0 = x := by simp [hz]
    rw [e1, show (Addr.mk b off none).add j = ⟨b, off + j, none⟩ by unfold Addr.add; split <;> simp_all] at h1
    refine ⟨b, off, rfl, hb, fun i v hv => ?_⟩
    have hi : i = 0 := by
      have := (List.getElem?_eq_some_iff.1 hv).1
      simpa [encU] using this
    subst hi
    simp [encU] at hv
    subst hv
    simpa using h1

end

end Go.Proofs.Ytcdilmagcdbogaa

namespace Go.Proofs.Ytcdilmagcdbogaa
set_option linter.unusedVariables false
set_option linter.unusedSimpArgs false
open Go.RowKit

/-- A board is handed back. -/
def MadePost (mp mf : List Int) (w : World) (e : Ending) (w' : World) : Prop := ∃ a ac g gc, e = .returned (.agg #[.slice a mp.length ac, .slice g mf.length gc]) ∧ Gr w w' ∧ IRow w' a mp ∧ IRow w' g mf ∧ NewAt w.heap.size a ∧ NewAt w.heap.size g

/-- A blank is handed back. -/
def BlankPost (tab hei slo : Int) (pan top bot : List Int) (opn : Bool) (w : World) (e : Ending) (w' : World) : Prop :=
  ∃ pa pc ta tc ba bc, e = .returned (.agg #[.int .i64 tab, .slice pa pan.length pc, .int .i64 hei, .slice ta top.length tc, .slice ba bot.length bc, .int .i64 slo, .bool opn]) ∧ Gr w w' ∧ IRow w' pa pan ∧ IRow w' ta top ∧ IRow w' ba bot ∧ NewAt w.heap.size pa ∧ NewAt w.heap.size ta ∧ NewAt w.heap.size ba

end Go.Proofs.Ytcdilmagcdbogaa

namespace Go.Proofs.Ytcdilmagcdbogaa
set_option linter.unusedVariables false
set_option linter.unusedSimpArgs false
open Go.RowKit

theorem infoPaper : (Try.prog.info? 174).map (fun i => (i.zero, i.size, i.bytes)) = some (some (.agg #[.int .i64 0, .int .i64 0, .int .i64 0, .int .i64 0, .int .i64 0, .int .i64 0, .int .i64 0, .int .i64 0]), 8, 64) := by kernel_rfl

theorem infoFlute : (Try.prog.info? 176).map (fun i => (i.zero, i.size, i.bytes)) = some (some (.agg #[.int .i64 0, .int .i64 0, .int .i64 0, .int .i64 0]), 4, 32) := by kernel_rfl

/-- A store is handed back. -/
def StorePost (ps : List Paper) (fs : List Flute) (w : World) (e : Ending) (w' : World) : Prop := ∃ a ac g gc, e = .returned (.agg #[.slice a ps.length ac, .slice g fs.length gc]) ∧ Gr w w' ∧ PRow w' a ps ∧ FRow w' g fs ∧ NewAt w.heap.size a ∧ NewAt w.heap.size g

theorem ne_of_at {x y g H : Nat} (h : some x = some g ∨ g = H) (hx : x ≠ y) (hH : H ≠ y) : g ≠ y := by
  rcases h with h | h
  · injection h with h
    omega
  · omega

theorem oneP (x : Paper) : ∀ u ∈ encP x, u.oneCell' = true := by
  intro u hu
  simp only [encP, List.mem_cons, List.not_mem_nil, or_false] at hu
  rcases hu with rfl | rfl | rfl | rfl | rfl | rfl | rfl | rfl <;> rfl

theorem oneF (x : Flute) : ∀ u ∈ encF x, u.oneCell' = true := by
  intro u hu
  simp only [encF, List.mem_cons, List.not_mem_nil, or_false] at hu
  rcases hu with rfl | rfl | rfl | rfl <;> rfl

theorem Own.grownRow {w w' : World} {b : Nat} {vs : List Value} {row : Option Nat} (h : Own w b vs) (g : w.grownBy w' row) (hne : ∀ r, row = some r → b ≠ r) : Own w' b vs := by
  have hb := g.block b h.1.1 (fun e => hne b e.symm rfl)
  exact ⟨⟨Nat.lt_of_lt_of_le h.1.1 g.size, fun i v hv => (World.cell?_of_block (w := w) (a := ⟨b, i, none⟩) hb).trans (h.1.2 i v hv)⟩, fun i => (World.frozen?_of_block (w := w) (a := ⟨b, i, none⟩) hb).trans (h.2 i)⟩

end Go.Proofs.Ytcdilmagcdbogaa

namespace Go.Proofs.Ytcdilmagcdbogaa
set_option linter.unusedVariables false
set_option linter.unusedSimpArgs false
open Go.RowKit

def HeldP (b : Nat) (y0 y1 y2 y3 : Int) (c : Nat) (pv : Value) (w' : World) : Prop := w'.cell? ⟨b, 0, none⟩ = some (.int .u8 y0) ∧ w'.cell? ⟨b, 1, none⟩ = some (.int .u8 y1) ∧ w'.cell? ⟨b, 2, none⟩ = some (.int .u8 y2) ∧ w'.cell? ⟨b, 3, none⟩ = some (.int .u8 y3) ∧ w'.cell? ⟨c, 0, none⟩ = some pv

def HeldF (b : Nat) (y2 : Int) (c : Nat) (pv : Value) (w' : World) : Prop := w'.cell? ⟨b, 2, none⟩ = some (.int .u8 y2) ∧ w'.cell? ⟨c, 1, none⟩ = some pv

def fpaper (v0 v1 v2 v3 : Int) (k : Int) : Paper := ⟨1 + k % 2, 80 + v0, 100 + v1, 100 + v1 + v2 % 60, v3 % 90, v3 % 90 + v2 % 20, 2000 * v0, 5 * v1⟩

def fflute (v0 v1 v2 : Int) : Flute := ⟨2000 + 20 * v0, 2000 + 20 * v0 + (2000 + 20 * v0) * v2 / 400, 1000 + 8 * v1, 1000 + 8 * v1 + v2 % 200⟩

def storeP (x0 x1 x2 x3 x4 x5 x6 x7 x8 x9 x10 x11 : Int) : List Paper := [fpaper x0 x1 x2 x3 0, fpaper x4 x5 x6 x7 1, fpaper x8 x9 x10 x11 2]

def storeF (x12 x13 x14 x15 x16 x17 : Int) : List Flute := [fflute x12 x13 x14, fflute x15 x16 x17]

def Byt (n : Int) : Prop := 0 ≤ n ∧ n ≤ 255

theorem owns_other {w : World} {base : Nat} {e : TypeId} {sz : Nat} {v : Value} {n : Nat} {xs : List Value} {c i : Nat} {u : Value} (h : w.ownsRow base e sz v n xs) (hc : c < base) : (w.setCell ⟨c, i, none⟩ u).ownsRow base e sz v n xs := by
  obtain ⟨h1, h2⟩ := h
  refine ⟨h1, ?_⟩
  rcases h2 with h2 | ⟨b, cap, cur, hv, hb, hh, r⟩
  · exact .inl h2
  · exact .inr ⟨b, cap, cur, hv, hb, (Below.heap_setCell _ _ _ _ (show b ≠ c by omega)).trans hh, r⟩

theorem Box.c3 {w : World} {b : Nat} {x0 x1 x2 : Value} (h : Box w b [x0, x1, x2]) : w.cell? ⟨b, 0, none⟩ = some x0 ∧ w.cell? ⟨b, 1, none⟩ = some x1 ∧ w.cell? ⟨b, 2, none⟩ = some x2 := ⟨h.2 0 x0 rfl, h.2 1 x1 rfl, h.2 2 x2 rfl⟩

theorem Box.other {w : World} {b c i : Nat} {vs : List Value} {v : Value} (h : Box w c vs) (hne : c ≠ b) : Box (w.setCell ⟨b, i, none⟩ v) c vs :=
  ⟨by simpa using h.1, fun j u hu => by rw [cell_set_ne v (.inl hne)]; exact h.2 j u hu⟩

end Go.Proofs.Ytcdilmagcdbogaa

namespace Go.Proofs.Ytcdilmagcdbogaa
set_option linter.unusedVariables false
set_option linter.unusedSimpArgs false
open Go.RowKit

structure V6 where
  a : Int
  b : Int
  c : Int
  d : Int
  e : Int
  f : Int

structure V3 where
  a : Int
  b : Int
  c : Int

def encV6 (v : V6) : List Value := [.int .u8 v.a, .int .u8 v.b, .int .u8 v.c, .int .u8 v.d, .int .u8 v.e, .int .u8 v.f]

def encV3 (v : V3) : List Value := [.int .u8 v.a, .int .u8 v.b, .int .u8 v.c]

abbrev Row6 := RowOf 6 encV6

abbrev Row3 := RowOf 3 encV3

def isB (n : Int) : Prop := 0 ≤ n ∧ n ≤ 255

def B6 (v : V6) : Prop := isB v.a ∧ isB v.b ∧ isB v.c ∧ isB v.d ∧ isB v.e ∧ isB v.f

def B3 (v : V3) : Prop := isB v.a ∧ isB v.b ∧ isB v.c

def npW (n : Nat) : Nat := if n ≤ 2 then 2 else if n ≤ 5 then n else 5

def nfW (n : Nat) : Nat := if n = 0 then 1 else if n ≤ 3 then n else 3

def wareP (P : List V6) (i : Nat) : V6 := match P[i]? with | some v => v | none => ⟨i, 120, 20, 7, 30, 20⟩

def wareF (F : List V3) (i : Nat) : V3 := match F[i]? with | some v => v | none => ⟨80, 128, 36⟩

def paperW (k : Nat) (v : V6) : Paper := ⟨if 1 < k then 1 + v.a % 2 else 1 + k, 50 + v.b, 50 + v.c, 50 + v.c + v.a / 8, v.d % 100, v.d % 100 + v.d / 16, 1000 * v.e, 10 * v.f⟩

def fluteW (v : V3) : Flute := ⟨1000 + 35 * v.a, 1000 + 35 * v.a + (1000 + 35 * v.a) * v.b / 255, 500 + 10 * v.c, 500 + 10 * v.c + v.b % 90⟩

def storeWP (P : List V6) : List Paper := (List.range (npW P.length)).map fun i => paperW i (wareP P i)

def storeWF (F : List V3) : List Flute := (List.range (nfW F.length)).map fun i => fluteW (wareF F i)

theorem storeWP_len (P : List V6) : (storeWP P).length = npW P.length := by simp [storeWP]

theorem storeWF_len (F : List V3) : (storeWF F).length = nfW F.length := by simp [storeWF]

theorem npW_bd (n : Nat) : 2 ≤ npW n ∧ npW n ≤ 5 := by unfold npW; split <;> (try split) <;> omega

theorem nfW_bd (n : Nat) : 1 ≤ nfW n ∧ nfW n ≤ 3 := by unfold nfW; split <;> (try split) <;> omega

theorem storeWP_at {P : List V6} {k : Nat} (h : k < npW P.length) : (storeWP P)[k]? = some (paperW k (wareP P k)) := by
  unfold storeWP
  rw [List.getElem?_map, List.getElem?_range h]
  rfl

theorem storeWF_at {F : List V3} {k : Nat} (h : k < nfW F.length) : (storeWF F)[k]? = some (fluteW (wareF F k)) := by
  unfold storeWF
  rw [List.getElem?_map, List.getElem?_range h]
  rfl

theorem wareP_B {P : List V6} (hP : ∀ v ∈ P, B6 v) {k : Nat} (hk : k < 5) : B6 (wareP P k) := by
  unfold wareP
  cases h : P[k]? with
  | some v => exact hP v (List.mem_of_getElem? h)
  | none => simp only [B6, isB]; omega

theorem wareF_B {F : List V3} (hF : ∀ v ∈ F, B3 v) (k : Nat) : B3 (wareF F k) := by
  unfold wareF
  cases h : F[k]? with
  | some v => exact hF v (List.mem_of_getElem? h)
  | none => simp only [B3, isB]; omega

theorem u8_small {k : Nat} (h : k < 5) : IntKind.u8.wrap (k : Int) = k := by
  have h5 : k = 0 ∨ k = 1 ∨ k = 2 ∨ k = 3 ∨ k = 4 := by omega
  rcases h5 with rfl | rfl | rfl | rfl | rfl <;> rfl

theorem owns_val {w : World} {base : Nat} {e : TypeId} {sz : Nat} {v : Value} {n : Nat} {xs : List Value} (h : w.ownsRow base e sz v n xs) : ∃ a cap, v = .slice a n cap := by
  obtain ⟨h1, h2⟩ := h
  rcases h2 with ⟨hv, hn⟩ | ⟨b, cap, cur, hv, _⟩
  · exact ⟨none, 0, by rw [hv, hn]⟩
  · exact ⟨some ⟨b, 0, none⟩, cap, hv⟩

theorem Own.news {v : World} {b : Nat} {vs : List Value} (h : Own v b vs) : ∀ (j : Nat) (u : Value), vs[j]? = some u → v.cell? ((⟨b, 0, none⟩ : Addr).add j) = some u := by
  intro j u hu
  have hc := h.1.2 j u hu
  unfold Addr.add
  split
  · rename_i h0
    subst h0
    exact hc
  · simpa using hc

end Go.Proofs.Ytcdilmagcdbogaa

namespace Go.Proofs.Ytcdilmagcdbogaa
set_option linter.unusedVariables false
set_option linter.unusedSimpArgs false
open Go.RowKit Go.ChangeShapes

theorem list_of {α : Type} (p : Nat → α → Prop) : ∀ n, (∀ j, j < n → ∃ x, p j x) → ∃ l : List α, l.length = n ∧ ∀ j x, l[j]? = some x → p j x
  | 0, _ => ⟨[], rfl, fun j x h => by simp at h⟩
  | n + 1, h => by
    obtain ⟨l, hl, hp⟩ := list_of p n (fun j hj => h j (by omega))
    obtain ⟨x, hx⟩ := h n (by omega)
    refine ⟨l ++ [x], by simp [hl], fun j y hy => ?_⟩
    by_cases hj : j < l.length
    · rw [List.getElem?_append_left hj] at hy
      exact hp j y hy
    · rw [List.getElem?_append_right (by omega)] at hy
      have h1 := (List.getElem?_eq_some_iff.1 hy).1
      simp at h1
      obtain rfl : j = n := by omega
      simp [hl] at hy
      subst hy
      exact hx

section
variable {H : Type} {enc : TypeId × Value → H} {P : Program} {W : World}

/-- A slice of arrays of integers of one kind. -/
theorem row_flat {α : Type} {en : α → List Value} {G : α → Prop} {e t : TypeId} {k : IntKind} {f sz fuel : Nat} {cs : List Value} {x : DataW H × List MemPlace} (ht : P.underlying t = some (.slice e)) (ha : allK P k f e = true) (hc : P.cellsOf e = sz) (h0 : 0 < sz)
    (hmk : ∀ l : List Int, l.length = sz → (∀ n ∈ l, (Lit.int k n).wf = true) → ∃ y : α, en y = l.map (Value.int k) ∧ G y)
    (hx : DataW.trod enc P W 0 (fun _ => true) true fuel t cs = some x) :
    ∃ (a : Option Addr) (l : List α) (cap : Nat), cs = [.slice a l.length cap] ∧ RowOf sz en W a l ∧ ∀ v ∈ l, G v := by
  rcases DataW.trod_slice ht hx with ⟨h, _⟩ | ⟨a, len, cap, elems, rest, n, _, rfl, _, hb, hl, hm, hlen, hel, _, _⟩
  · exact ⟨none, [], 0, h, RowOf.nil, fun v hv => by cases hv⟩
  have hj : ∀ j, j < len → ∃ y : α, G y ∧ ∃ l : List Int, l.length = sz ∧ en y = l.map (Value.int k) ∧ ∀ i, i < sz → W.cell? ((a.add (j * sz)).add i) = (l.map (Value.int k))[i]? := by
    intro j hj
    have h1 := hel j hj
    rw [List.getElem?_eq_getElem (by omega)] at h1
    obtain ⟨cs', hcs, hy⟩ := Option.bind_eq_some_iff.1 h1
    obtain ⟨hl', hat⟩ := allK_open f e ha _ _ _ hy
    obtain ⟨l, hcl, hw⟩ := ints_of _ hat
    have hll : l.length = sz := by rw [← hc, ← hl', hcl]; simp
    obtain ⟨y, hy1, hy2⟩ := hmk l hll hw
    refine ⟨y, hy2, l, hll, hy1, fun i hi => ?_⟩
    have := (World.cells?_some hcs).2.2 i (by omega)
    rw [hc, hcl] at this
    exact this
  obtain ⟨l, hlen', hp⟩ := list_of _ len hj
  refine ⟨some a, l, cap, by rw [hlen'], ⟨?_, fun j y hy => ?_⟩, fun v hv => ?_⟩
  · rw [hlen']
    have : maxLen ≤ 9223372036854775807 := by decide
    omega
  · obtain ⟨_, li, hli, hen, hcell⟩ := hp j y hy
    have z0 := hcell 0 h0
    have hi0 : (li.map (Value.int k))[0]? = some (.int k (li[0]'(by omega))) := by simp [List.getElem?_eq_getElem (show 0 < li.length by omega)]
    rw [hi0, show (a.add (j * sz)).add 0 = a.add (j * sz) by simp [Addr.add]] at z0
    have hs : a.spot = none := by
      cases hsp : a.spot with
      | none => rfl
      | some q =>
        exfalso
        have hj0 : j < len := by have := (List.getElem?_eq_some_iff.1 hy).1; omega
        obtain ⟨_, _, li0, hli0, _, hc0⟩ := hj 0 (by omega)
        have z1 := hc0 0 h0
        have hi1 : (li0.map (Value.int k))[0]? = some (.int k (li0[0]'(by omega))) := by simp [List.getElem?_eq_getElem (show 0 < li0.length by omega)]
        rw [hi1, show (a.add (0 * sz)).add 0 = a by simp [Addr.add]] at z1
        unfold World.cell? at z1
        split at z1
        · simp [hsp] at z1
        · cases z1
    obtain ⟨b, off, sp⟩ := a
    simp only at hs
    subst hs
    refine ⟨b, off, rfl, ?_, fun i v hv => ?_⟩
    · have := World.block_lt_of_cell? W _ z0
      rw [WideShapes.add_plain] at this
      exact this
    · have hi : i < sz := by
        have := (List.getElem?_eq_some_iff.1 hv).1
        rw [hen] at this
        simpa [hli] using this
      have := hcell i hi
      rw [WideShapes.add_plain, WideShapes.add_plain, ← hen, hv] at this
      exact this
  · obtain ⟨j, hjv⟩ := List.getElem?_of_mem hv
    exact (hp j v hjv).1

/-- A struct of three slices: each by itself. -/
theorem struct3 {t t0 t1 t2 : TypeId} {fs : Array Field} {fuel : Nat} {cs : List Value} {x : DataW H × List MemPlace} (hu : P.underlying t = some (.struct fs)) (ct : P.cellsOf t = 3) (c0 : P.cellsOf t0 = 1) (c1 : P.cellsOf t1 = 1) (c2 : P.cellsOf t2 = 1)
    (m0 : ∃ g ∈ fs.toList, g.type = t0 ∧ g.offset = 0) (m1 : ∃ g ∈ fs.toList, g.type = t1 ∧ g.offset = 1) (m2 : ∃ g ∈ fs.toList, g.type = t2 ∧ g.offset = 2)
    (hx : DataW.trod enc P W 0 (fun _ => true) true fuel t cs = some x) :
    ∃ s0 s1 s2 n x0 x1 x2, cs = [s0, s1, s2] ∧ DataW.trod enc P W 0 (fun _ => true) true n t0 [s0] = some x0 ∧ DataW.trod enc P W 0 (fun _ => true) true n t1 [s1] = some x1 ∧ DataW.trod enc P W 0 (fun _ => true) true n t2 [s2] = some x2 := by
  cases fuel with
  | zero => simp [DataW.trod] at hx
  | succ n =>
    unfold DataW.trod at hx
    rw [hu] at hx
    simp only at hx
    split at hx
    case isFalse => cases hx
    rename_i hl
    obtain ⟨xs, hxs, _⟩ := Option.map_eq_some_iff.1 hx
    rw [ct] at hl
    obtain ⟨s0, s1, s2, rfl⟩ : ∃ s0 s1 s2, cs = [s0, s1, s2] := by
      match cs, hl with
      | [s0, s1, s2], _ => exact ⟨s0, s1, s2, rfl⟩
    obtain ⟨g0, hg0, e0, o0⟩ := m0
    obtain ⟨g1, hg1, e1, o1⟩ := m1
    obtain ⟨g2, hg2, e2, o2⟩ := m2
    obtain ⟨y0, hy0⟩ := mapM_at _ _ hxs g0 hg0
    obtain ⟨y1, hy1⟩ := mapM_at _ _ hxs g1 hg1
    obtain ⟨y2, hy2⟩ := mapM_at _ _ hxs g2 hg2
    rw [e0, o0, c0] at hy0
    rw [e1, o1, c1] at hy1
    rw [e2, o2, c2] at hy2
    exact ⟨s0, s1, s2, n, y0, y1, y2, rfl, hy0, hy1, hy2⟩

end

theorem mk6 (l : List Int) (hl : l.length = 6) (hw : ∀ n ∈ l, (Lit.int .u8 n).wf = true) : ∃ y : V6, encV6 y = l.map (Value.int .u8) ∧ B6 y := by
  match l, hl with
  | [a, b, c, d, e, f], _ => exact ⟨⟨a, b, c, d, e, f⟩, rfl, bounds_u8 (hw a (by simp)), bounds_u8 (hw b (by simp)), bounds_u8 (hw c (by simp)), bounds_u8 (hw d (by simp)), bounds_u8 (hw e (by simp)), bounds_u8 (hw f (by simp))⟩

theorem mk3 (l : List Int) (hl : l.length = 3) (hw : ∀ n ∈ l, (Lit.int .u8 n).wf = true) : ∃ y : V3, encV3 y = l.map (Value.int .u8) ∧ B3 y := by
  match l, hl with
  | [a, b, c], _ => exact ⟨⟨a, b, c⟩, rfl, bounds_u8 (hw a (by simp)), bounds_u8 (hw b (by simp)), bounds_u8 (hw c (by simp))⟩

theorem mk1 (l : List Int) (hl : l.length = 1) (hw : ∀ n ∈ l, (Lit.int .u8 n).wf = true) : ∃ y : Int, encU y = l.map (Value.int .u8) ∧ (0 ≤ y ∧ y ≤ 255) := by
  match l, hl with
  | [a], _ => exact ⟨a, rfl, bounds_u8 (hw a (by simp))⟩

end Go.Proofs.Ytcdilmagcdbogaa

namespace Go.Proofs.Ytcdilmagcdbogaa
set_option linter.unusedVariables false
set_option linter.unusedSimpArgs false
open Go.RowKit Go.ChangeShapes

/-- The pieces of a struct. -/
theorem struct_piece {H : Type} {enc : TypeId × Value → H} {P : Program} {W : World} {t : TypeId} {fs : Array Field} {fuel : Nat} {cs : List Value} {x : DataW H × List MemPlace} (hu : P.underlying t = some (.struct fs))
    (hx : DataW.trod enc P W 0 (fun _ => true) true fuel t cs = some x) :
    cs.length = P.cellsOf t ∧ ∃ n, ∀ g ∈ fs.toList, ∃ y, DataW.trod enc P W 0 (fun _ => true) true n g.type ((cs.drop g.offset).take (P.cellsOf g.type)) = some y := by
  cases fuel with
  | zero => simp [DataW.trod] at hx
  | succ n =>
    unfold DataW.trod at hx
    rw [hu] at hx
    simp only at hx
    split at hx
    case isFalse => cases hx
    rename_i hl
    obtain ⟨xs, hxs, _⟩ := Option.map_eq_some_iff.1 hx
    exact ⟨hl, n, fun g hg => mapM_at _ _ hxs g hg⟩

theorem mk2 (l : List Int) (hl : l.length = 2) (hw : ∀ n ∈ l, (Lit.int .u8 n).wf = true) : ∃ y : V2, encV2 y = l.map (Value.int .u8) ∧ B2 y := by
  match l, hl with
  | [a, b], _ => exact ⟨⟨a, b⟩, rfl, bounds_u8 (hw a (by simp)), bounds_u8 (hw b (by simp))⟩

set_option maxRecDepth 100000 in
theorem lot_open {H : Type} {enc : TypeId × Value → H} {W : World} {fuel : Nat} {cs : List Value} {x : DataW H × List MemPlace} (hx : DataW.trod enc Try.prog W 0 (fun _ => true) true fuel 83 cs = some x) :
    ∃ (r0 r1 r2 r3 of : Int) (T : List V2) (ta : Option Addr) (tc : Nat), cs = [.int .u8 r0, .int .u8 r1, .int .u8 r2, .int .u8 r3, .int .u8 of, .slice ta T.length tc] ∧ (0 ≤ r0 ∧ r0 ≤ 255) ∧ (0 ≤ r1 ∧ r1 ≤ 255) ∧ (0 ≤ r2 ∧ r2 ≤ 255) ∧ (0 ≤ r3 ∧ r3 ≤ 255) ∧ (0 ≤ of ∧ of ≤ 255) ∧ Row2 W ta T ∧ ∀ v ∈ T, B2 v := by
  obtain ⟨hl, n, hp⟩ := struct_piece Try.underlying83 hx
  rw [show Try.prog.cellsOf 83 = 6 from by kernel_rfl] at hl
  obtain ⟨c0, c1, c2, c3, c4, c5, rfl⟩ : ∃ c0 c1 c2 c3 c4 c5, cs = [c0, c1, c2, c3, c4, c5] := by
    match cs, hl with
    | [c0, c1, c2, c3, c4, c5], _ => exact ⟨c0, c1, c2, c3, c4, c5, rfl⟩
  obtain ⟨y0, h0⟩ := hp _ List.mem_cons_self
  obtain ⟨y1, h1⟩ := hp _ (List.mem_cons_of_mem _ List.mem_cons_self)
  obtain ⟨y2, h2⟩ := hp _ (List.mem_cons_of_mem _ (List.mem_cons_of_mem _ List.mem_cons_self))
  have h0' : DataW.trod enc Try.prog W 0 (fun _ => true) true n 80 [c0, c1, c2, c3] = some y0 := by
    have e : Try.prog.cellsOf 80 = 4 := by kernel_rfl
    simpa only [List.drop_zero, e, List.take_succ_cons, List.take_zero] using h0
  have h1' : DataW.trod enc Try.prog W 0 (fun _ => true) true n 5 [c4] = some y1 := by
    have e : Try.prog.cellsOf 5 = 1 := by kernel_rfl
    simpa only [List.drop_succ_cons, List.drop_zero, e, List.take_succ_cons, List.take_zero] using h1
  have h2' : DataW.trod enc Try.prog W 0 (fun _ => true) true n 81 [c5] = some y2 := by
    have e : Try.prog.cellsOf 81 = 1 := by kernel_rfl
    simpa only [List.drop_succ_cons, List.drop_zero, e, List.take_succ_cons, List.take_zero] using h2
  obtain ⟨_, hat⟩ := allK_open (k := .u8) 5 80 (by kernel_rfl) _ _ _ h0'
  obtain ⟨l, hcs, hw⟩ := ints_of _ hat
  obtain ⟨of, e4, hof⟩ := int_open Try.underlying5 h1'
  obtain ⟨ta, T, tc, e5, rT, hT⟩ := row_flat (f := 5) (en := encV2) (G := B2) Try.underlying81 (k := .u8) (by kernel_rfl) (by kernel_rfl) (by decide) mk2 h2'
  obtain ⟨r0, r1, r2, r3, rfl⟩ : ∃ r0 r1 r2 r3, l = [r0, r1, r2, r3] := by
    have hl4 : l.length = 4 := by
      have := congrArg List.length hcs
      simpa using this.symm
    match l, hl4 with
    | [r0, r1, r2, r3], _ => exact ⟨r0, r1, r2, r3, rfl⟩
  simp only [List.map_cons, List.map_nil, List.cons.injEq, and_true] at hcs e4 e5
  obtain ⟨rfl, rfl, rfl, rfl⟩ := hcs
  subst e4
  subst e5
  exact ⟨r0, r1, r2, r3, of, T, ta, tc, rfl, bounds_u8 (hw r0 (by simp)), bounds_u8 (hw r1 (by simp)), bounds_u8 (hw r2 (by simp)), bounds_u8 (hw r3 (by simp)), bounds_u8 hof, rT, hT⟩

end Go.Proofs.Ytcdilmagcdbogaa

namespace Go.Proofs.Ytcdilmagcdbogaa
set_option linter.unusedVariables false
set_option linter.unusedSimpArgs false
open Go.RowKit Go.ChangeShapes

/-- A struct, or an array, of ints in so many cells. -/
theorem ints_flat {H : Type} {enc : TypeId × Value → H} {W : World} {t : TypeId} {f fuel : Nat} {cs : List Value} {x : DataW H × List MemPlace} (ha : allK Try.prog .i64 f t = true) (hx : DataW.trod enc Try.prog W 0 (fun _ => true) true fuel t cs = some x) :
    ∃ l : List Int, cs = l.map (Value.int .i64) := by
  obtain ⟨_, hat⟩ := allK_open (k := .i64) f t ha _ _ _ hx
  obtain ⟨l, hcs, hw⟩ := ints_of _ hat
  exact ⟨l, hcs⟩

theorem trod_len {H : Type} {enc : TypeId × Value → H} {P : Program} {W : World} {t : TypeId} {fs : Array Field} {fuel : Nat} {cs : List Value} {x : DataW H × List MemPlace} (hu : P.underlying t = some (.struct fs))
    (hx : DataW.trod enc P W 0 (fun _ => true) true fuel t cs = some x) : cs.length = P.cellsOf t := (struct_piece hu hx).1

set_option maxRecDepth 100000 in
theorem load_open {H : Type} {enc : TypeId × Value → H} {W : World} {fuel : Nat} {cs : List Value} {x : DataW H × List MemPlace} (hx : DataW.trod enc Try.prog W 0 (fun _ => true) true fuel 70 cs = some x) :
    ∃ y : Ld, cs = [.int .i64 y.sl, .int .i64 y.sh, .int .i64 y.wl, .int .i64 y.wh] := by
  have hl := trod_len Try.underlying70 hx
  rw [show Try.prog.cellsOf 70 = 4 from by kernel_rfl] at hl
  obtain ⟨l, rfl⟩ := ints_flat (f := 5) (by kernel_rfl) hx
  rw [List.length_map] at hl
  match l, hl with
  | [a, b, c, d], _ => exact ⟨⟨a, b, c, d⟩, rfl⟩

theorem mkLd (l : List Int) (hl : l.length = 4) (hw : ∀ n ∈ l, (Lit.int .i64 n).wf = true) : ∃ y : Ld, encL y = l.map (Value.int .i64) ∧ True := by
  match l, hl with
  | [a, b, c, d], _ => exact ⟨⟨a, b, c, d⟩, rfl, trivial⟩

theorem mkSt (l : List Int) (hl : l.length = 2) (hw : ∀ n ∈ l, (Lit.int .i64 n).wf = true) : ∃ y : Stp, encT y = l.map (Value.int .i64) ∧ True := by
  match l, hl with
  | [a, b], _ => exact ⟨⟨a, b⟩, rfl, trivial⟩

set_option maxRecDepth 100000 in
theorem stack_open {H : Type} {enc : TypeId × Value → H} {W : World} {v : Value} {d : DataW H} {ps : List MemPlace} {r : Reach} {b0 : Nat} (hval : Value.okWide Try.prog W r b0 53 v) (h : DataW.Trod enc Try.prog W 0 (fun _ => true) true 53 v d ps) :
    ∃ (a : Option Addr) (l : List Ld) (cap : Nat), v = .slice a l.length cap ∧ LRow W a l := by
  obtain ⟨a0, len0, cap0, rfl⟩ := Go.WideShapes.okWide_slice Try.underlying53 hval
  obtain ⟨fuel, hf⟩ := h
  obtain ⟨a, l, cap, e, rl, _⟩ := row_flat (f := 5) (en := encL) (G := fun _ => True) Try.underlying53 (k := .i64) (by kernel_rfl) (by kernel_rfl) (by decide) mkLd hf
  have e' : [Value.slice a0 len0 cap0] = [.slice a l.length cap] := e
  injection e' with e' _
  exact ⟨a, l, cap, e', rl⟩

set_option maxRecDepth 100000 in
theorem table_open {H : Type} {enc : TypeId × Value → H} {W : World} {v : Value} {d : DataW H} {ps : List MemPlace} {r : Reach} {b0 : Nat} (hval : Value.okWide Try.prog W r b0 54 v) (h : DataW.Trod enc Try.prog W 0 (fun _ => true) true 54 v d ps) :
    ∃ (a : Option Addr) (l : List Stp) (cap : Nat), v = .slice a l.length cap ∧ TRow W a l := by
  obtain ⟨a0, len0, cap0, rfl⟩ := Go.WideShapes.okWide_slice Try.underlying54 hval
  obtain ⟨fuel, hf⟩ := h
  obtain ⟨a, l, cap, e, rl, _⟩ := row_flat (f := 5) (en := encT) (G := fun _ => True) Try.underlying54 (k := .i64) (by kernel_rfl) (by kernel_rfl) (by decide) mkSt hf
  have e' : [Value.slice a0 len0 cap0] = [.slice a l.length cap] := e
  injection e' with e' _
  exact ⟨a, l, cap, e', rl⟩

end Go.Proofs.Ytcdilmagcdbogaa
