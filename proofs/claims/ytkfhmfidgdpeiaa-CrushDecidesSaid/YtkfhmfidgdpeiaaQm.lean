/- A map from int to int that a call makes: what it holds, number by number. Plain arithmetic of a board: parts, take-up, what is used of each paper, and the bounds. What a store leaves of a map; the contract of take. Rows that a call makes by append. -/
import Derived.Test.YtkfhmfidgdpeiaaQc
import Derived.Maps.OwnOps
import Derived.Maps.Views
import Derived.Test.YtkfhmfidgdpeiaaQa
namespace Go.Proofs.Ytkfhmfidgdpeiaa
set_option linter.unusedVariables false
set_option linter.unusedSimpArgs false
open Go.RowKit

theorem key3 : Maps.Keyed Try.prog 3 := Maps.int_keyed Try.underlying3

theorem zero3 (w : World) : (zeroValue 3).run Try.prog w = .ok (.int .i64 0) w := by kernel_rfl

/-- Block b is a map of at most n entries in which each number x leads to f x (0 where x is not in it). -/
def MapIs (w : World) (b n : Nat) (f : Int → Int) : Prop :=
  ∃ D : DataW Unit, Maps.IsMap D ∧ w.ownsMap Try.prog 3 (plainElem Try.prog 3) b n D ∧ ∀ x : Int, D.atKey (.int .i64 x) (.lit (.int .i64 0)) = .lit (.int .i64 (f x))

theorem MapIs.lt {w : World} {b n : Nat} {f : Int → Int} (h : MapIs w b n f) : b < w.heap.size := by
  obtain ⟨D, _, h, _⟩ := h
  exact h.lt

theorem MapIs.keep {w w' : World} {b n : Nat} {f : Int → Int} (h : MapIs w b n f) (g : Gr w w') : MapIs w' b n f := by
  have hlt := h.lt
  obtain ⟨D, hD, ⟨es, clock, hb, F, hs, hd⟩, ha⟩ := h
  exact ⟨D, hD, ⟨es, clock, (g.block b hlt).trans hb, F, hs, hd⟩, ha⟩

theorem MapIs.made (w : World) : MapIs (w.alloc (.map #[] 0)) w.heap.size 0 (fun _ => 0) :=
  ⟨.map [], ⟨[], rfl⟩, World.ownsMap_made _ _ _ _, fun _ => rfl⟩

theorem wf64 {n : Int} (h1 : -9223372036854775808 ≤ n) (h2 : n ≤ 9223372036854775807) : (Lit.int .i64 n).wf = true := WalkArith.wf_i64 ⟨h1, h2⟩

end Go.Proofs.Ytkfhmfidgdpeiaa

namespace Go.Proofs.Ytkfhmfidgdpeiaa
set_option linter.unusedVariables false
set_option linter.unusedSimpArgs false
open Go.RowKit

/-- A board of a store that has no error: its numbers name papers and flutes that are valid. -/
structure Fine (ps : List Paper) (fs : List Flute) (mp mf : List Int) : Prop where
  np : ps.length ≤ 8
  nf : fs.length ≤ 4
  f1 : 1 ≤ mf.length
  f2 : mf.length ≤ 2
  mpl : mp.length = 2 * mf.length + 1
  good : ∀ (n : Nat) (p : Paper), ps[n]? = some p → goodP p = true
  pap : ∀ k, k < mp.length → ∃ (n : Nat) (p : Paper), mp[k]? = some (n : Int) ∧ ps[n]? = some p ∧ p.kind = kindL k
  flu : ∀ i, i < mf.length → ∃ (n : Nat) (f : Flute), mf[i]? = some (n : Int) ∧ fs[n]? = some f ∧ goodF f = true

theorem fine_of_made {ps : List Paper} {fs : List Flute} {mp mf : List Int} (h : madeL ps fs mp mf = 0) : Fine ps fs mp mf := by
  unfold madeL at h
  by_cases c0 : checkL ps fs = 0
  case neg => rw [if_pos c0] at h; exact absurd h c0
  rw [if_neg (by simp [c0])] at h
  by_cases c1 : formedL mp mf = false
  case pos => rw [if_pos c1] at h; cases h
  rw [if_neg c1] at h
  by_cases c2 : numberedL mp mf ps.length fs.length = false
  case pos => rw [if_pos c2] at h; cases h
  rw [if_neg c2] at h
  by_cases c3 : kindsOk ps mp = false
  case pos => rw [if_pos c3] at h; cases h
  have c1' : formedL mp mf = true := by simpa using c1
  have c2' : numberedL mp mf ps.length fs.length = true := by simpa using c2
  have c3' : kindsOk ps mp = true := by simpa using c3
  unfold checkL at c0
  by_cases d1 : 8 < ps.length ∨ 4 < fs.length
  case pos => rw [if_pos d1] at c0; cases c0
  rw [if_neg d1] at c0
  by_cases d2 : ps.length = 0 ∨ fs.length = 0
  case pos => rw [if_pos d2] at c0; cases c0
  rw [if_neg d2] at c0
  by_cases d3 : (ps.all goodP && fs.all goodF) = true
  case neg => rw [if_neg d3] at c0; cases c0
  rw [Bool.and_eq_true] at d3
  unfold formedL at c1'
  rw [Bool.and_eq_true] at c1'
  obtain ⟨e1, e2⟩ := c1'
  simp only [inB, in1, List.all_cons, List.all_nil, Bool.and_true, Bool.and_eq_true, decide_eq_true_eq] at e1
  simp only [beq_iff_eq] at e2
  unfold numberedL at c2'
  rw [Bool.and_eq_true] at c2'
  obtain ⟨g1, g2⟩ := c2'
  refine ⟨by omega, by omega, by omega, by omega, by omega, fun n p hp => List.all_eq_true.1 d3.1 p (List.mem_of_getElem? hp), fun k hk => ?_, fun i hi => ?_⟩
  · obtain ⟨x, hx⟩ := get_of_lt hk
    obtain ⟨h1, h2⟩ := in_of_all g1 hx
    obtain ⟨n, rfl⟩ := Int.eq_ofNat_of_zero_le h1
    obtain ⟨p, hp⟩ := get_of_lt (show n < ps.length by omega)
    refine ⟨n, p, hx, hp, ?_⟩
    have := List.all_eq_true.1 c3' k (by simpa using hk)
    unfold kindOk at this
    rw [hx] at this
    simp only [Int.toNat_natCast, hp] at this
    simpa using this
  · obtain ⟨x, hx⟩ := get_of_lt hi
    obtain ⟨h1, h2⟩ := in_of_all g2 hx
    obtain ⟨n, rfl⟩ := Int.eq_ofNat_of_zero_le h1
    obtain ⟨f, hf⟩ := get_of_lt (show n < fs.length by omega)
    exact ⟨n, f, hx, hf, List.all_eq_true.1 d3.2 f (List.mem_of_getElem? hf)⟩

theorem goodF_iff {f : Flute} (h : goodF f = true) : 1000 ≤ f.pitch ∧ f.pitch ≤ 10000 ∧ f.pitch ≤ f.draw ∧ f.draw ≤ 2 * f.pitch ∧ 1 ≤ f.hlo ∧ f.hlo ≤ f.hhi ∧ f.hhi ≤ 10000 := by
  simp only [goodF, okSpan, inB, in1, List.all_cons, List.all_nil, Bool.and_true, Bool.and_eq_true, decide_eq_true_eq] at h
  omega

theorem goodP_iff {p : Paper} (h : goodP p = true) : (p.kind = 1 ∨ p.kind = 2) ∧ 1 ≤ p.weight ∧ p.weight ≤ 1000 ∧ 1 ≤ p.tlo ∧ p.tlo ≤ p.thi ∧ p.thi ≤ 1000 ∧ 0 ≤ p.mlo ∧ p.mlo ≤ p.mhi ∧ p.mhi ≤ 200 ∧
    0 ≤ p.price ∧ p.price ≤ 1000000 ∧ 0 ≤ p.strong ∧ p.strong ≤ 10000 := by
  simp only [goodP, okSpan, inB, in1, List.all_cons, List.all_nil, Bool.and_true, Bool.and_eq_true, Bool.or_eq_true, beq_iff_eq, decide_eq_true_eq] at h
  omega

/-- The flute at a place of a board, and the paper. -/
def fluteAt (fs : List Flute) (mf : List Int) (i : Nat) : Flute := fluteN fs (mf.getD i 0)

def paperN (ps : List Paper) (n : Int) : Paper := ps.getD n.toNat ⟨1, 1, 1, 1, 1, 1, 1, 1⟩

def partsTo (fs : List Flute) (mf : List Int) : Nat → Int
  | 0 => 1
  | k + 1 => partsTo fs mf k * (fluteAt fs mf k).pitch

def partsL (fs : List Flute) (mf : List Int) : Int := partsTo fs mf mf.length

def takeL (fs : List Flute) (mf : List Int) (k : Nat) : Int :=
  if kindL k == 1 then partsL fs mf else partsL fs mf / (fluteAt fs mf (k / 2)).pitch * (fluteAt fs mf (k / 2)).draw

def usedTo (fs : List Flute) (mp mf : List Int) : Nat → Int → Int
  | 0, _ => 0
  | k + 1, x => if x = mp.getD k 0 then usedTo fs mp mf k x + takeL fs mf k else usedTo fs mp mf k x

def usedL (fs : List Flute) (mp mf : List Int) (x : Int) : Int := usedTo fs mp mf mp.length x

theorem fluteAt_eq {fs : List Flute} {mf : List Int} {i n : Nat} {f : Flute} (h : mf[i]? = some (n : Int)) (hf : fs[n]? = some f) : fluteAt fs mf i = f := by
  simp [fluteAt, fluteN, h, hf]

theorem flute_good {ps : List Paper} {fs : List Flute} {mp mf : List Int} (F : Fine ps fs mp mf) {i : Nat} (hi : i < mf.length) :
    1000 ≤ (fluteAt fs mf i).pitch ∧ (fluteAt fs mf i).pitch ≤ 10000 ∧ (fluteAt fs mf i).pitch ≤ (fluteAt fs mf i).draw ∧ (fluteAt fs mf i).draw ≤ 2 * (fluteAt fs mf i).pitch ∧ 1 ≤ (fluteAt fs mf i).hlo ∧ (fluteAt fs mf i).hlo ≤ (fluteAt fs mf i).hhi ∧ (fluteAt fs mf i).hhi ≤ 10000 := by
  obtain ⟨n, f, h1, h2, h3⟩ := F.flu i hi
  rw [fluteAt_eq h1 h2]
  exact goodF_iff h3

theorem partsTo_bd {ps : List Paper} {fs : List Flute} {mp mf : List Int} (F : Fine ps fs mp mf) : ∀ k, k ≤ mf.length → 1 ≤ partsTo fs mf k ∧ partsTo fs mf k ≤ 10000 ^ k
  | 0, _ => by simp [partsTo]
  | k + 1, hk => by
    obtain ⟨h1, h2⟩ := partsTo_bd F k (by omega)
    obtain ⟨g1, g2, _⟩ := flute_good F (show k < mf.length by omega)
    refine ⟨?_, ?_⟩
    · show 1 ≤ partsTo fs mf k * (fluteAt fs mf k).pitch
      calc (1 : Int) ≤ 1 * 1 := by decide
        _ ≤ _ := Int.mul_le_mul h1 (by omega) (by decide) (by omega)
    · show partsTo fs mf k * (fluteAt fs mf k).pitch ≤ _
      rw [Int.pow_succ]
      exact Int.mul_le_mul h2 g2 (by omega) (by omega)

theorem partsTo_le {ps : List Paper} {fs : List Flute} {mp mf : List Int} (F : Fine ps fs mp mf) {k : Nat} (hk : k ≤ mf.length) : 1 ≤ partsTo fs mf k ∧ partsTo fs mf k ≤ 100000000 := by
  obtain ⟨h1, h2⟩ := partsTo_bd F k hk
  have := F.f2
  refine ⟨h1, Int.le_trans h2 ?_⟩
  have hk2 : k = 0 ∨ k = 1 ∨ k = 2 := by omega
  rcases hk2 with rfl | rfl | rfl <;> decide

theorem parts_bd {ps : List Paper} {fs : List Flute} {mp mf : List Int} (F : Fine ps fs mp mf) : 1 ≤ partsL fs mf ∧ partsL fs mf ≤ 100000000 := partsTo_le F (Nat.le_refl _)

theorem quo_bd {p q : Int} (hp : 0 ≤ p) (hp1 : p ≤ 100000000) (hq : 1 ≤ q) : 0 ≤ p / q ∧ p / q ≤ 100000000 := by
  refine ⟨Int.ediv_nonneg hp (by omega), Int.le_trans (Int.ediv_le_self _ hp) hp1⟩

theorem quo_mul {p q d : Int} (hp : 0 ≤ p) (hp1 : p ≤ 100000000) (hq : 1 ≤ q) (hd0 : 0 ≤ d) (hd : d ≤ 2 * q) : 0 ≤ p / q * d ∧ p / q * d ≤ 200000000 := by
  obtain ⟨h1, _⟩ := quo_bd hp hp1 hq
  refine ⟨Int.mul_nonneg h1 hd0, ?_⟩
  calc p / q * d ≤ p / q * (2 * q) := Int.mul_le_mul_of_nonneg_left hd h1
    _ = 2 * (p / q * q) := by rw [Int.mul_left_comm]
    _ ≤ 2 * p := Int.mul_le_mul_of_nonneg_left (Int.ediv_mul_le p (by omega)) (by decide)
    _ ≤ 200000000 := by omega

theorem kindL_odd {k : Nat} (h : (kindL (k : Int) == 1) = false) : 2 * (k / 2) + 1 ≤ k ∧ k ≤ 2 * (k / 2) + 1 := by
  unfold kindL at h
  split at h
  · cases h
  · omega

theorem take_bd {ps : List Paper} {fs : List Flute} {mp mf : List Int} (F : Fine ps fs mp mf) {k : Nat} (hk : k < mp.length) : 1 ≤ takeL fs mf k ∧ takeL fs mf k ≤ 200000000 := by
  obtain ⟨h1, h2⟩ := parts_bd F
  unfold takeL
  cases hk1 : (kindL (k : Int) == 1) with
  | true => simp only [if_true]; omega
  | false =>
    obtain ⟨o1, o2⟩ := kindL_odd hk1
    have hm := F.mpl
    obtain ⟨g1, g2, g3, g4, _⟩ := flute_good F (show k / 2 < mf.length by omega)
    simp only [Bool.false_eq_true, if_false]
    refine ⟨?_, (quo_mul (by omega) h2 (by omega) (by omega) g4).2⟩
    -- the pitch of a flute of the board divides the parts: it is not above them
    have hdiv : ∀ n, n ≤ mf.length → ∀ i, i < n → (fluteAt fs mf i).pitch ≤ partsTo fs mf n := by
      intro n
      induction n with
      | zero => intro _ i hi; omega
      | succ n ih =>
        intro hn i hi
        obtain ⟨q1, _⟩ := partsTo_le F (show n ≤ mf.length by omega)
        obtain ⟨r1, _⟩ := flute_good F (show n < mf.length by omega)
        show _ ≤ partsTo fs mf n * (fluteAt fs mf n).pitch
        by_cases hin : i < n
        · have := ih (by omega) i hin
          calc (fluteAt fs mf i).pitch ≤ partsTo fs mf n * 1 := by omega
            _ ≤ _ := Int.mul_le_mul_of_nonneg_left (by omega) (by omega)
        · have : i = n := by omega
          subst this
          calc (fluteAt fs mf i).pitch = 1 * (fluteAt fs mf i).pitch := by omega
            _ ≤ _ := Int.mul_le_mul_of_nonneg_right q1 (by omega)
    have h3 := hdiv mf.length (Nat.le_refl _) (k / 2) (by omega)
    have h4 : 1 ≤ partsL fs mf / (fluteAt fs mf (k / 2)).pitch := by
      rw [Int.le_ediv_iff_mul_le (by omega)]
      show 1 * _ ≤ partsTo fs mf mf.length
      omega
    calc (1 : Int) = 1 * 1 := by decide
      _ ≤ _ := Int.mul_le_mul h4 (by omega) (by decide) (by omega)

theorem usedTo_bd {ps : List Paper} {fs : List Flute} {mp mf : List Int} (F : Fine ps fs mp mf) (x : Int) : ∀ k, k ≤ mp.length → 0 ≤ usedTo fs mp mf k x ∧ usedTo fs mp mf k x ≤ 200000000 * k
  | 0, _ => by simp [usedTo]
  | k + 1, hk => by
    obtain ⟨h1, h2⟩ := usedTo_bd F x k (by omega)
    obtain ⟨t1, t2⟩ := take_bd F (show k < mp.length by omega)
    unfold usedTo
    split <;> omega

theorem used_bd {ps : List Paper} {fs : List Flute} {mp mf : List Int} (F : Fine ps fs mp mf) (x : Int) : 0 ≤ usedL fs mp mf x ∧ usedL fs mp mf x ≤ 1000000000 := by
  obtain ⟨h1, h2⟩ := usedTo_bd F x mp.length (Nat.le_refl _)
  have := F.mpl
  have := F.f2
  exact ⟨h1, by unfold usedL; omega⟩

end Go.Proofs.Ytkfhmfidgdpeiaa

namespace Go.Proofs.Ytkfhmfidgdpeiaa
set_option linter.unusedVariables false
set_option linter.unusedSimpArgs false
open Go.RowKit

theorem MapIs.other {w : World} {b n c i : Nat} {f : Int → Int} {v : Value} (h : MapIs w b n f) (hne : b ≠ c) : MapIs (w.setCell ⟨c, i, none⟩ v) b n f := by
  obtain ⟨D, hD, ⟨es, clock, hb, F, hs, hd⟩, ha⟩ := h
  exact ⟨D, hD, ⟨es, clock, (Below.heap_setCell _ _ _ _ hne).trans hb, F, hs, hd⟩, ha⟩

theorem MapIs.dr {w : World} {b n : Nat} {f : Int → Int} (h : MapIs w b n f) : MapIs w.drew b n f := h.keep (Gr.dr w)

theorem MapIs.congr {w : World} {b n n' : Nat} {f g : Int → Int} (h : MapIs w b n f) (hn : n ≤ n') (e : ∀ y, f y = g y) : MapIs w b n' g := by
  have : f = g := funext e
  subst this
  obtain ⟨D, hD, ho, ha⟩ := h
  exact ⟨D, hD, ho.mono hn, ha⟩

end Go.Proofs.Ytkfhmfidgdpeiaa

namespace Go.Proofs.Ytkfhmfidgdpeiaa
set_option linter.unusedVariables false
set_option linter.unusedSimpArgs false
open Go.RowKit

theorem owns_keep {w w' : World} {base : Nat} {e : TypeId} {sz : Nat} {v : Value} {n : Nat} {xs : List Value} (h : w.ownsRow base e sz v n xs) (g : Gr w w') : w'.ownsRow base e sz v n xs := by
  obtain ⟨h1, h2⟩ := h
  refine ⟨h1, ?_⟩
  rcases h2 with h2 | ⟨b, cap, cur, hv, hb, hh, r⟩
  · exact .inl h2
  · have hlt : b < w.heap.size := (Array.getElem?_eq_some_iff.1 hh).1
    exact .inr ⟨b, cap, cur, hv, hb, (g.block b hlt).trans hh, r⟩

theorem owns_base {w : World} {base base' : Nat} {e : TypeId} {sz : Nat} {v : Value} {n : Nat} {xs : List Value} (h : w.ownsRow base e sz v n xs) (hb : base' ≤ base) : w.ownsRow base' e sz v n xs := by
  obtain ⟨h1, h2⟩ := h
  refine ⟨h1, ?_⟩
  rcases h2 with h2 | ⟨b, cap, cur, hv, hg, r⟩
  · exact .inl h2
  · exact .inr ⟨b, cap, cur, hv, Nat.le_trans hb hg, r⟩

theorem flat_len {α : Type} {enc : α → List Value} {sz : Nat} (he : ∀ x, (enc x).length = sz) : ∀ l : List α, (l.flatMap enc).length = l.length * sz
  | [] => by simp
  | x :: l => by simp [flat_len he l, he x, Nat.succ_mul, Nat.add_comm]

theorem flat_get {α : Type} {enc : α → List Value} {sz : Nat} (he : ∀ x, (enc x).length = sz) : ∀ (l : List α) (j i : Nat) (x : α) (v : Value), l[j]? = some x → (enc x)[i]? = some v → (l.flatMap enc)[j * sz + i]? = some v
  | [], j, i, x, v, h, _ => by simp at h
  | y :: l, 0, i, x, v, h, hv => by
    simp only [List.getElem?_cons_zero, Option.some.injEq] at h
    subst h
    have hi : i < (enc y).length := (List.getElem?_eq_some_iff.1 hv).1
    simp only [List.flatMap_cons, Nat.zero_mul, Nat.zero_add]
    rw [List.getElem?_append_left hi, hv]
  | y :: l, j + 1, i, x, v, h, hv => by
    simp only [List.getElem?_cons_succ] at h
    have := flat_get he l j i x v h hv
    simp only [List.flatMap_cons]
    rw [List.getElem?_append_right (by rw [he y, Nat.succ_mul]; omega), he y]
    rw [show (j + 1) * sz + i - sz = j * sz + i by rw [Nat.succ_mul]; omega]
    exact this

/-- A row that the call owns is a row. -/
theorem owns_row {α : Type} {enc : α → List Value} {sz : Nat} {w : World} {base : Nat} {e : TypeId} {v : Value} {l : List α} (he : ∀ x, (enc x).length = sz) (hl : l.length ≤ 9223372036854775807) (h : w.ownsRow base e sz v l.length (l.flatMap enc)) :
    ∃ a cap, v = .slice a l.length cap ∧ RowOf sz enc w a l := by
  obtain ⟨h1, h2⟩ := h
  rcases h2 with ⟨hv, hn⟩ | ⟨b, cap, cur, hv, hb, hh, hcap, hmax, hsz, hx⟩
  · refine ⟨none, 0, by rw [hv, hn], hl, fun j x hj => ?_⟩
    have : l = [] := List.eq_nil_of_length_eq_zero hn
    subst this
    simp at hj
  · refine ⟨some ⟨b, 0, none⟩, cap, hv, hl, fun j x hj => ⟨b, 0, rfl, (Array.getElem?_eq_some_iff.1 hh).1, fun i u hu => ?_⟩⟩
    have hf := flat_get he l j i x u hj hu
    rw [← hx] at hf
    have hlt := (List.getElem?_eq_some_iff.1 hf).1
    rw [List.length_take] at hlt
    rw [List.getElem?_take_of_lt (by omega)] at hf
    have hf' : cur[j * sz + i]? = some u := by simpa using hf
    simp only [World.cell?, hh, Nat.zero_add]
    simpa using hf'

theorem flat_snoc {α : Type} (enc : α → List Value) (l : List α) (x : α) : (l ++ [x]).flatMap enc = l.flatMap enc ++ enc x := by simp

theorem owns_lt {w : World} {base : Nat} {e : TypeId} {sz : Nat} {v : Value} {n : Nat} {xs : List Value} (h : w.ownsRow base e sz v n xs) {b : Nat} (hb : v.ownBlock = some b) : base ≤ b := by

  obtain ⟨_, h2⟩ := h
  rcases h2 with ⟨hv, _⟩ | ⟨g, cap, cur, hv, hg, _⟩
  · subst hv; simp [Value.ownBlock] at hb
  · subst hv; simp [Value.ownBlock] at hb; omega

/-- Behind an append onto a row that is the call's own, whatever lay in w lies as it lay. -/
theorem Gr.grown' {w wr w' : World} {base : Nat} {e : TypeId} {sz : Nat} {v : Value} {n : Nat} {xs : List Value} (g : Gr w wr) (h : wr.ownsRow base e sz v n xs) (hb : w.heap.size ≤ base) (hg : wr.grownBy w' v.ownBlock) : Gr w w' :=
  g.grown hg g.size (fun b hb' => Nat.le_trans hb (owns_lt h hb'))

/-- .. and so do the blocks that are no part of the row. -/
theorem Box.grown {w w' : World} {b : Nat} {vs : List Value} {row : Option Nat} (h : Box w b vs) (hg : w.grownBy w' row) (hne : ∀ r, row = some r → b ≠ r) : Box w' b vs := by
  have hb := hg.block b h.1 (fun e => hne b e.symm rfl)
  exact ⟨Nat.lt_of_lt_of_le h.1 hg.size, fun i v hv => (World.cell?_of_block (w := w) (a := ⟨b, i, none⟩) hb).trans (h.2 i v hv)⟩

theorem MapIs.grownRow {w w' : World} {b n : Nat} {f : Int → Int} {row : Option Nat} (h : MapIs w b n f) (hg : w.grownBy w' row) (hne : ∀ r, row = some r → b ≠ r) : MapIs w' b n f := by
  have hlt := h.lt
  obtain ⟨D, hD, ⟨es, clock, hb, F, hs, hd⟩, ha⟩ := h
  exact ⟨D, hD, ⟨es, clock, (hg.block b hlt (fun e => hne b e.symm rfl)).trans hb, F, hs, hd⟩, ha⟩

theorem RowOf.grown {α : Type} {sz : Nat} {enc : α → List Value} {w w' : World} {a : Option Addr} {l : List α} {row : Option Nat} (h : RowOf sz enc w a l) (hg : w.grownBy w' row) (hne : ∀ r b off, row = some r → a = some ⟨b, off, none⟩ → b ≠ r) : RowOf sz enc w' a l := by
  refine ⟨h.1, fun j x hx => ?_⟩
  obtain ⟨b, off, ha, hb, hc⟩ := h.2 j x hx
  have hbk := hg.block b hb (fun e => hne b b off e.symm ha rfl)
  exact ⟨b, off, ha, Nat.lt_of_lt_of_le hb hg.size, fun i v hv => (World.cell?_of_block (w := w) (a := ⟨b, off + j * sz + i, none⟩) hbk).trans (hc i v hv)⟩

theorem cell_news (w : World) (cs : List Value) (t : TypeId) : ∀ (j : Nat) (u : Value), cs[j]? = some u → (w.alloc (.cells cs.toArray t)).cell? ((⟨w.heap.size, 0, none⟩ : Addr).add j) = some u := by
  intro j u h
  have hc := new_cell w cs.toArray t (i := j) (v := u) (by simpa using h)
  unfold Addr.add
  split
  · rename_i h0; subst h0; exact hc
  · simpa using hc

theorem ints_one (l : List Int) : ∀ u ∈ l.map (fun n => Value.int .i64 n), u.oneCell' = true := by
  intro u hu
  obtain ⟨n, _, rfl⟩ := List.mem_map.1 hu
  rfl

end Go.Proofs.Ytkfhmfidgdpeiaa
