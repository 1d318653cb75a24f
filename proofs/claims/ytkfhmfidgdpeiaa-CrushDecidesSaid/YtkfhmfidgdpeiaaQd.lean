/- crush: what is known of a lot, as more is read of it. Append onto one of two rows: the rows stay apart. Contracts of the law's ints and passes. The law's lot: a rule, an off, truths and readings. CrushSure's calls: the copy of readings, Decide. CrushFew: the fewest tests. -/
import Derived.Test.YtkfhmfidgdpeiaaQl
import Derived.Test.YtkfhmfidgdpeiaaQi
import Derived.Test.YtkfhmfidgdpeiaaQm
import Derived.Test.YtkfhmfidgdpeiaaP1
import Derived.BigQuiet
import Derived.Test.YtkfhmfidgdpeiaaR4
import Derived.Test.YtkfhmfidgdpeiaaR5
import Derived.Lib.MinMax
import Derived.Deep.CutRange
import Derived.Deep.AppendLies
import Derived.Test.YtkfhmfidgdpeiaaI31
namespace Go.Proofs.Ytkfhmfidgdpeiaa
set_option linter.unusedVariables false
set_option linter.unusedSimpArgs false

/-- Truths that lie within others. -/
def Within : List (Int × Int) → List (Int × Int) → Prop
  | [], [] => True
  | x :: l, y :: m => (x.1 ≤ y.1 ∧ y.2 ≤ x.2) ∧ Within l m
  | _, _ => False

theorem within_sum : ∀ {l m : List (Int × Int)}, Within l m → sumS false l ≤ sumS false m ∧ sumS true m ≤ sumS true l
  | [], [], _ => by simp [sumS]
  | x :: l, y :: m, h => by
    obtain ⟨⟨a, b⟩, c⟩ := h
    obtain ⟨p, q⟩ := within_sum c
    simp only [sumS, Bool.false_eq_true, if_false, if_true]
    omega
  | [], _ :: _, h => h.elim
  | _ :: _, [], h => h.elim

theorem within_bad {low : Int} : ∀ {l m : List (Int × Int)}, Within l m → badS false low m ≤ badS false low l ∧ badS true low l ≤ badS true low m
  | [], [], _ => by simp [badS]
  | x :: l, y :: m, h => by
    obtain ⟨⟨a, b⟩, c⟩ := h
    obtain ⟨p, q⟩ := within_bad (low := low) c
    simp only [badS, Bool.false_eq_true, if_false, if_true]
    have h1 : (if y.1 < low then (1 : Int) else 0) ≤ if x.1 < low then 1 else 0 := by split <;> split <;> omega
    have h2 : (if x.2 < low then (1 : Int) else 0) ≤ if y.2 < low then 1 else 0 := by split <;> split <;> omega
    omega
  | [], _ :: _, h => h.elim
  | _ :: _, [], h => h.elim

theorem passB_iff {hi : Bool} {te me low ba : Int} {l : List (Int × Int)} : passB hi te me low ba l = true ↔ badS hi low l ≤ ba ∧ te * me ≤ sumS hi l := by
  unfold passB
  rw [Bool.and_eq_true, decide_eq_true_eq, decide_eq_true_eq]

theorem within_lo {te me low ba : Int} {l m : List (Int × Int)} (h : Within l m) (hp : passB false te me low ba l = true) : passB false te me low ba m = true := by
  rw [passB_iff] at hp ⊢
  have h1 := within_sum h
  have h2 := within_bad (low := low) h
  omega

theorem within_hi {te me low ba : Int} {l m : List (Int × Int)} (h : Within l m) (hp : passB true te me low ba m = true) : passB true te me low ba l = true := by
  rw [passB_iff] at hp ⊢
  have h1 := within_sum h
  have h2 := within_bad (low := low) h
  omega

theorem within_map {f g : Nat → Int × Int} : ∀ L : List Nat, (∀ k ∈ L, (f k).1 ≤ (g k).1 ∧ (g k).2 ≤ (f k).2) → Within (L.map f) (L.map g)
  | [], _ => trivial
  | x :: L, h => ⟨h x List.mem_cons_self, within_map L (fun k hk => h k (List.mem_cons_of_mem _ hk))⟩

/-- Truths that are known. -/
def diag (l : List Int) : List (Int × Int) := l.map fun t => (t, t)

theorem diag_sum (hi : Bool) : ∀ l, sumS hi (diag l) = sumS false (diag l)
  | [] => rfl
  | x :: l => by
    have := diag_sum hi l
    simp only [diag, List.map_cons] at this ⊢
    cases hi <;> simp [sumS] <;> simpa using this

theorem diag_bad (hi : Bool) (low : Int) : ∀ l, badS hi low (diag l) = badS false low (diag l)
  | [] => rfl
  | x :: l => by
    have := diag_bad hi low l
    simp only [diag, List.map_cons] at this ⊢
    cases hi <;> simp [badS] <;> simpa using this

theorem diag_pass (hi : Bool) (te me low ba : Int) (l : List Int) : passB hi te me low ba (diag l) = passB false te me low ba (diag l) := by
  unfold passB
  rw [diag_sum hi, diag_bad hi]

theorem state_one {te me low ba : Int} {X : List (Int × Int)} : stateL te me low ba X = 1 ↔ passB false te me low ba X = true := by
  unfold stateL
  by_cases h : passB false te me low ba X = true
  · simp [h]
  · rw [if_neg h]
    constructor
    · intro h2
      split at h2 <;> omega
    · intro h2
      exact absurd h2 h

theorem state_two {te me low ba : Int} {X : List (Int × Int)} : stateL te me low ba X = 2 ↔ passB false te me low ba X = false ∧ passB true te me low ba X = false := by
  unfold stateL
  cases h : passB false te me low ba X <;> cases k : passB true te me low ba X <;> simp

theorem state_bd (te me low ba : Int) (X : List (Int × Int)) : stateL te me low ba X = 1 ∨ stateL te me low ba X = 2 ∨ stateL te me low ba X = 3 := by
  unfold stateL
  split
  · exact .inl rfl
  · split
    · exact .inr (.inr rfl)
    · exact .inr (.inl rfl)

/-- What is sure is so in the end. -/
theorem state_in {te me low ba : Int} {X : List (Int × Int)} {T : List Int} (h : Within X (diag T)) (hx : stateL te me low ba X ≠ 3) : (stateL te me low ba X = 1 ↔ passB false te me low ba (diag T) = true) := by
  constructor
  · intro h1
    exact within_lo h (state_one.1 h1)
  · intro hp
    rcases state_bd te me low ba X with h1 | h2 | h3
    · exact h1
    · have h4 := (state_two.1 h2).2
      rw [← diag_pass true] at hp
      rw [within_hi h hp] at h4
      cases h4
    · exact absurd h3 hx

/-- It stays so. -/
theorem state_up {te me low ba : Int} {X Y : List (Int × Int)} {T : List Int} (h : Within X Y) (k : Within Y (diag T)) (hx : stateL te me low ba X ≠ 3) : stateL te me low ba Y = stateL te me low ba X := by
  rcases state_bd te me low ba X with h1 | h2 | h3
  · rw [h1, state_one]
    exact within_lo h (state_one.1 h1)
  · rw [h2, state_two]
    have h4 := (state_two.1 h2).2
    have h5 : passB true te me low ba Y = false := by
      cases h6 : passB true te me low ba Y with
      | false => rfl
      | true =>
        rw [within_hi h h6] at h4
        cases h4
    refine ⟨?_, h5⟩
    cases h6 : passB false te me low ba Y with
    | false => rfl
    | true =>
      have h7 := within_lo k h6
      rw [← diag_pass true] at h7
      rw [within_hi k h7] at h5
      cases h5
  · exact absurd h3 hx

theorem state_diag (te me low ba : Int) (T : List Int) : stateL te me low ba (diag T) ≠ 3 := by
  unfold stateL
  rw [diag_pass true]
  split
  · decide
  · decide

/-- A test of a lot: what is true, and what the gauge is wrong by. -/
structure V2 where
  a : Int
  b : Int

def encV2 (v : V2) : List Value := [.int .u8 v.a, .int .u8 v.b]

abbrev Row2 := RowOf 2 encV2

def B2 (v : V2) : Prop := (0 ≤ v.a ∧ v.a ≤ 255) ∧ (0 ≤ v.b ∧ v.b ≤ 255)

theorem Row2.get {w : World} {a : Option Addr} {l : List V2} (h : Row2 w a l) {j : Nat} {x : V2} (hx : l[j]? = some x) :
    ∃ b o, a = some ⟨b, o, none⟩ ∧ b < w.heap.size ∧ w.cell? ⟨b, o + j * 2, none⟩ = some (.int .u8 x.a) ∧ w.cell? ⟨b, o + j * 2 + 1, none⟩ = some (.int .u8 x.b) := by
  obtain ⟨b, o, ha, hb, hc⟩ := h.2 j x hx
  exact ⟨b, o, ha, hb, hc 0 _ rfl, hc 1 _ rfl⟩

def lotT (T : List V2) (i : Nat) : V2 := match T[i]? with
  | some v => v
  | none => ⟨100, 0⟩

theorem lotT_bd {T : List V2} (h : ∀ v ∈ T, B2 v) (i : Nat) : B2 (lotT T i) := by
  unfold lotT
  split
  · rename_i v hv
    exact h v (List.mem_of_getElem? hv)
  · exact ⟨⟨by decide, by decide⟩, ⟨by decide, by decide⟩⟩

def lotA (T : List V2) (i : Nat) : Int := (lotT T i).a

def lotR (T : List V2) (off : Int) (i : Nat) : Int := max 0 ((lotT T i).a + (lotT T i).b % (2 * off + 1) - off)

def lotTru (T : List V2) (n : Nat) : List Int := (List.range n).map (lotA T)

def lotRea (T : List V2) (off : Int) (n : Nat) : List Int := (List.range n).map (lotR T off)

theorem lotTru_len (T : List V2) (n : Nat) : (lotTru T n).length = n := by simp [lotTru]

theorem lotRea_len (T : List V2) (off : Int) (n : Nat) : (lotRea T off n).length = n := by simp [lotRea]

theorem lotTru_succ (T : List V2) (n : Nat) : lotTru T (n + 1) = lotTru T n ++ [lotA T n] := by simp [lotTru, List.range_succ]

theorem lotRea_succ (T : List V2) (off : Int) (n : Nat) : lotRea T off (n + 1) = lotRea T off n ++ [lotR T off n] := by simp [lotRea, List.range_succ]

theorem lotA_bd {T : List V2} (h : ∀ v ∈ T, B2 v) (i : Nat) : 0 ≤ lotA T i ∧ lotA T i ≤ 255 := (lotT_bd h i).1

theorem lotR_bd {T : List V2} (h : ∀ v ∈ T, B2 v) {off : Int} (o0 : 0 ≤ off) (o1 : off ≤ 39) (i : Nat) : (0 ≤ lotR T off i ∧ lotR T off i ≤ 294) ∧ lotR T off i - off ≤ lotA T i ∧ lotA T i ≤ lotR T off i + off := by
  obtain ⟨⟨a0, a1⟩, b0, b1⟩ := lotT_bd h i
  have m0 := Int.emod_nonneg (lotT T i).b (b := 2 * off + 1) (by omega)
  have m1 := Int.emod_lt_of_pos (lotT T i).b (b := 2 * off + 1) (by omega)
  unfold lotR lotA
  omega

theorem lotRea_take {T : List V2} {off : Int} {n k i : Nat} (hi : i < n) : ((lotRea T off n).take k)[i]? = if i < k then some (lotR T off i) else none := by
  rw [List.getElem?_take]
  simp [lotRea, hi]

theorem lotRea_mem {T : List V2} (h : ∀ v ∈ T, B2 v) {off : Int} (o0 : 0 ≤ off) (o1 : off ≤ 39) {n : Nat} {r : Int} (hr : r ∈ lotRea T off n) : 0 ≤ r ∧ r ≤ 294 := by
  simp only [lotRea, List.mem_map, List.mem_range] at hr
  obtain ⟨i, _, rfl⟩ := hr
  exact (lotR_bd h o0 o1 i).1

theorem lotTru_mem {T : List V2} (h : ∀ v ∈ T, B2 v) {n : Nat} {r : Int} (hr : r ∈ lotTru T n) : 0 ≤ r ∧ r ≤ 255 := by
  simp only [lotTru, List.mem_map, List.mem_range] at hr
  obtain ⟨i, _, rfl⟩ := hr
  exact lotA_bd h i

theorem diag_tru (T : List V2) (n : Nat) : diag (lotTru T n) = (List.range n).map (fun i => (lotA T i, lotA T i)) := by
  simp [diag, lotTru, Function.comp_def]

theorem tru_within {T : List V2} (h : ∀ v ∈ T, B2 v) {off : Int} (o0 : 0 ≤ off) (o1 : off ≤ 39) (n k : Nat) : Within (truthsL n off ((lotRea T off n).take k)) (diag (lotTru T n)) := by
  rw [diag_tru]
  refine within_map _ (fun i hi => ?_)
  rw [List.mem_range] at hi
  have h1 := lotR_bd h o0 o1 i
  have h2 := lotA_bd h i
  unfold truthAt
  rw [lotRea_take hi]
  by_cases hk : i < k
  · rw [if_pos hk]
    dsimp only
    omega
  · rw [if_neg hk]
    dsimp only
    omega

theorem take_within (n : Nat) (off : Int) (L : List Int) (k : Nat) : Within (truthsL n off (L.take k)) (truthsL n off (L.take (k + 1))) := by
  refine within_map _ (fun i hi => ?_)
  unfold truthAt
  rw [List.getElem?_take, List.getElem?_take]
  by_cases hk : i < k
  · rw [if_pos hk, if_pos (by omega)]
    exact ⟨Int.le_refl _, Int.le_refl _⟩
  · rw [if_neg hk]
    dsimp only
    split <;> dsimp only <;> omega

theorem exact_diag {T : List V2} (h : ∀ v ∈ T, B2 v) (n : Nat) : truthsL n 0 (lotTru T n) = diag (lotTru T n) := by
  rw [diag_tru]
  unfold truthsL
  refine List.map_congr_left (fun i hi => ?_)
  rw [List.mem_range] at hi
  have h2 := lotA_bd h i
  unfold truthAt
  rw [show (lotTru T n)[i]? = some (lotA T i) by simp [lotTru, hi]]
  dsimp only
  rw [Int.max_eq_right (by omega), Int.min_eq_right (by omega)]
  simp

theorem lot_rule {n : Nat} {me lo ba off : Int} {l : List Int} (n1 : 1 ≤ n) (n2 : n ≤ 20) (m0 : 0 ≤ me) (m1 : me ≤ 100000) (l0 : 0 ≤ lo) (l1 : lo ≤ 100000) (b0 : 0 ≤ ba) (b1 : ba ≤ (n : Int)) (o0 : 0 ≤ off) (o1 : off ≤ 1000) (hl : l.length ≤ n) (hB : ∀ r ∈ l, 0 ≤ r ∧ r ≤ 100000) : ruleL (n : Int) me lo ba off l = 0 := by
  have h1 : ruleOk (n : Int) me lo ba = true := by
    simp [ruleOk, inB, in1]
    omega
  have h2 : inB 0 1000 [off] = true := by
    simp [inB, in1]
    omega
  have h3 : ¬ (n : Int) < (l.length : Int) := by omega
  have h4 : inB 0 100000 l = true := by
    simp only [inB, List.all_eq_true]
    intro r hr
    have := hB r hr
    simp [in1]
    omega
  unfold ruleL
  rw [if_neg (by rw [h1]; decide), if_neg (by rw [h2]; decide), if_neg h3, if_neg (by rw [h4]; decide)]

end Go.Proofs.Ytkfhmfidgdpeiaa

namespace Go.Proofs.Ytkfhmfidgdpeiaa
set_option linter.unusedVariables false
set_option linter.unusedSimpArgs false
open Go.RowKit

theorem owns_zero {w : World} {base : Nat} {e : TypeId} {size : Nat} {v : Value} {n : Nat} {xs : List Value} (h : w.ownsRow base e size v n xs) : w.ownsRow 0 e size v n xs := by
  obtain ⟨h1, h2⟩ := h
  refine ⟨h1, ?_⟩
  rcases h2 with h2 | ⟨g, cap, cur, hv, _, h3⟩
  · exact .inl h2
  · exact .inr ⟨g, cap, cur, hv, Nat.zero_le _, h3⟩

/-- Two rows that do not lie in one block. -/
def Apart (v u : Value) : Prop := ∀ b, v.ownBlock = some b → u.ownBlock ≠ some b

theorem Apart.symm {v u : Value} (h : Apart v u) : Apart u v := fun b hb hv => h b hv hb

theorem wpList_append_sep {P : Program} (w : World) {ops : Array Oper} {rest : List Oper} {o : Oper} {a : Act} {Q : Exit → Act → World → Prop} (hgd : o.guard = none) (s x : Operand) (t : TypeId)
    (ho : o.op = .call { callee := .builtin .append, args := #[s, x], argTypes := #[t, t] })
    (base : Nat) (e : TypeId) (i : TypeInfo) (z : Value) (size bytes : Nat) (ht : P.underlying t = some (.slice e)) (hi : P.info? e = some i) (hz : i.zero = some z)
    (hsize : i.size = size) (hby : i.bytes = bytes) (hzs : z.cells.size = size) (hsz : 0 < size)
    (v : Value) (n : Nat) (xs : List Value) (hs : a.eval s = v) (hown : w.ownsRow base e size v n xs)
    (ad : Addr) (m c : Nat) (news : List Value) (hx : a.eval x = .slice (some ad) m c) (hl : news.length = m * size) (hnews : ∀ j u, news[j]? = some u → w.cell? (ad.add j) = some u) (h1 : ∀ u ∈ news, u.oneCell' = true)
    (h63 : n + m ≤ maxLen) (hbytes : (n + m) * bytes ≤ 140737488355328) (hbase : base ≤ w.heap.size)
    (u : Value) (k : Nat) (ys : List Value) (hu : w.ownsRow base e size u k ys) (hap : Apart v u)
    (h : ∀ v' w', w'.ownsRow base e size v' (n + m) (xs ++ news) → w.grownBy w' v.ownBlock → w'.ownsRow base e size u k ys → Apart v' u → wpList P ops Q rest (a.put o.dst v') w') : wpList P ops Q (o :: rest) a w := by
  refine wpList_plain hgd fun _ hK => ?_
  obtain ⟨v', w', hr, h2, h3, h4⟩ := run_append_own (P := P) w base t o.type e i z size bytes ht hi hz hsize hby hzs hsz v n xs hown ad m c news hl hnews h1 h63 hbytes hbase
  obtain ⟨v'', w'', hr', _, _, h5⟩ := run_append_new (P := P) w t o.type e i z size bytes ht hi hz hsize hby hzs hsz v n xs (owns_zero hown) ad m c news hl hnews h1 h63 hbytes
  rw [hr] at hr'
  injection hr' with e1 e2
  subst e1
  subst e2
  have hku : w'.ownsRow base e size u k ys := hu.kept h3 (by
    cases hub : u.ownBlock with
    | none => exact .inl rfl
    | some b => exact .inr (fun he => hap b he.symm hub))
  have hap' : Apart v' u := fun b hb hub => by
    rcases (h5 b hb).2 with h6 | h6
    · exact hap b h6 hub
    · have := (hu.lt b hub).2
      omega
  unfold Oper.wp execOp
  simp only [ho, resolve, invoke, builtin, Sem.run_bind, Sem.run_pure, Result.andThen_ok, List.map_toArray, List.map_cons, List.map_nil, hs, hx, hr]
  exact hK _ _ (h v' w' h2 h3 hku hap')

theorem Apart.lit {g k : Nat} {n m c d : Nat} (h : g ≠ k) : Apart (.slice (some ⟨g, 0, none⟩) n c) (.slice (some ⟨k, 0, none⟩) m d) := by
  intro b hb hc
  simp only [Value.ownBlock, Option.some.injEq] at hb hc
  omega

end Go.Proofs.Ytkfhmfidgdpeiaa

namespace Go.Proofs.Ytkfhmfidgdpeiaa
set_option linter.unusedVariables false
set_option linter.unusedSimpArgs false
open Go.RowKit

theorem owns_row_cap {α : Type} {enc : α → List Value} {sz : Nat} {w : World} {base : Nat} {e : TypeId} {v : Value} {l : List α} (he : ∀ x, (enc x).length = sz) (hl : l.length ≤ 9223372036854775807) (h : w.ownsRow base e sz v l.length (l.flatMap enc)) :
    ∃ a cap, v = .slice a l.length cap ∧ RowOf sz enc w a l ∧ (a = none → cap = 0) ∧ l.length ≤ cap := by
  obtain ⟨a, cap, hv, hr⟩ := owns_row he hl h
  refine ⟨a, cap, hv, hr, ?_⟩
  rcases h.2 with ⟨hv2, hn⟩ | ⟨b, cap2, cur, hv2, _, _, hc, _⟩
  · rw [hv2] at hv
    injection hv with e1 e2 e3
    exact ⟨fun _ => e3.symm, by omega⟩
  · rw [hv2] at hv
    injection hv with e1 e2 e3
    subst e1
    subst e3
    exact ⟨fun h => (by cases h), hc⟩

set_option maxHeartbeats 400000 in
theorem lints_any (l : List Int) (hl : l.length ≤ 1000) (b off cap : Nat) (w : World) (hr : IRow w (some ⟨b, off, none⟩) l) :
    Calls Try.prog 17 #[.slice (some ⟨b, off, none⟩) l.length cap] w fun e w' => ∃ a' cap', e = .returned (.slice a' l.length cap') ∧ IRow w' a' l ∧ (a' = none → cap' = 0) ∧ l.length ≤ cap' ∧ Gr w w' := by
  obtain ⟨i0, hi, hz0, hz1, hz2⟩ := info_parts infoInt
  have hr1 := hr.grow (Gr.al w (.cells #[] 3))
  have h1 : 0 + l.length ≤ maxLen := by unfold maxLen; omega
  have h2 : (0 + l.length) * 8 ≤ 140737488355328 := by omega
  have hfl := flat_len (enc := encI) (sz := 1) (fun _ => rfl) l
  have hnews := row_news (enc := encI) (sz := 1) (fun _ => rfl) hr1
  have Hfl := Lib.hid hfl
  have Hnews := Lib.hid hnews
  clear hfl hnews
  go_enter Try.func17, Try.ntmps17
  go_wp2_with (at_builtin; refine wpList_append_own _ rfl _ _ 24 rfl w.heap.size 3 i0 (.int .i64 0) 1 8 Try.underlying24 hi hz0 hz1 hz2 rfl (by decide) _ _ _ rfl (owns_empty w _ _) ⟨b, off, none⟩ l.length cap (l.flatMap encI) rfl Hfl.out Hnews.out (one_flat (fun x u hu => by simp [encI] at hu; subst hu; rfl) l) h1 h2 (by simp) ?_; intro v' w1 hown hgrow _)
  obtain ⟨a', cap', hv, hr2, hn2, hc2⟩ := owns_row_cap (enc := encI) (l := l) (fun _ => rfl) (by omega) (by simpa using hown)
  subst hv
  have Hr2 := Lib.hid hr2
  have Hn2 := Lib.hid hn2
  have Hc2 := Lib.hid hc2
  clear hr2 hn2 hown hc2
  go_wp2
  go_ret
  exact ⟨a', ⟨cap', rfl, Hr2.out, Hn2.out, Hc2.out, (Gr.al w _).grown' (owns_empty w _ 1) (Nat.le_refl _) hgrow⟩⟩

theorem diag_app (l : List Int) (x : Int) : diag (l ++ [x]) = diag l ++ [(x, x)] := by simp [diag]

theorem diag_bd {l : List Int} (hB : ∀ x ∈ l, 0 ≤ x ∧ x ≤ 100000) : ∀ x ∈ diag l, TrB x := by
  intro x hx
  simp only [diag, List.mem_map] at hx
  obtain ⟨t, ht, rfl⟩ := hx
  have := hB t ht
  exact ⟨this.1, this.2, this.1, this.2⟩

set_option maxRecDepth 100000 in
set_option maxHeartbeats 1000000 in
theorem lpasses_any (te me lo ba : Int) (l : List Int) (hl : l.length ≤ 1000) (hB : ∀ x ∈ l, 0 ≤ x ∧ x ≤ 100000) (t0 : 0 ≤ te) (t1 : te ≤ 1000) (m0 : 0 ≤ me) (m1 : me ≤ 100000) (a : Option Addr) (cap : Nat) (w : World) (hr : IRow w a l) :
    Calls Try.prog 50 #[.agg #[.int .i64 te, .int .i64 me, .int .i64 lo, .int .i64 ba], .slice a l.length cap] w fun e w' => e = .returned (.bool (passB false te me lo ba (diag l))) ∧ Gr w w' := by
  have gg := Gr.al w (.cells #[.int .i64 te, .int .i64 me, .int .i64 lo, .int .i64 ba] 23)
  have hb := Box.new w [.int .i64 te, .int .i64 me, .int .i64 lo, .int .i64 ba] 23 w.heap.size rfl
  have HB := Lib.hid hb
  have GG := Lib.hid gg
  have HR := Lib.hid (hr.grow gg)
  have q0 : 0 ≤ te * me := Int.mul_nonneg t0 m0
  have q1 : te * me ≤ 1000 * 100000 := Int.mul_le_mul t1 m1 m0 (by omega)
  clear hb gg hr
  go_enter Try.func50, Try.ntmps50
  go_upto_region 2 with fail
  refine wp_abs (fun W => Gr (w.alloc (.cells #[.int .i64 te, .int .i64 me, .int .i64 lo, .int .i64 ba] 23)) W) (Below.refl _ _) ?_
  intro W hW
  go_wp2
  go_loopw [7, 5, 6] (fun t s b wr => Hid (∃ k : Nat, k ≤ l.length ∧ t = .int .i64 k ∧ Gr (w.alloc (.cells #[.int .i64 te, .int .i64 me, .int .i64 lo, .int .i64 ba] 23)) wr ∧ s = .int .i64 (sumS false (diag (l.take k))) ∧ b = .int .i64 (badS false lo (diag (l.take k))))) (fun t _ _ _ => l.length - (intOf t).toNat)
  case atStart => exact Lib.hid ⟨0, Nat.zero_le _, rfl, hW, rfl, rfl⟩
  case round =>
    obtain ⟨k, hk, rfl, gW, rfl, rfl⟩ := hrel.out
    clear hrel
    obtain ⟨x0, x1⟩ := sumS_bd false (diag (l.take k)) (diag_bd (fun x hx => hB x (List.mem_of_mem_take hx)))
    have x2 := badS_0 false lo (diag (l.take k))
    have x3 := badS_len false lo (diag (l.take k))
    have x4 : (diag (l.take k)).length = min k l.length := by simp [diag]
    obtain ⟨p0, p1, p2, p3⟩ := (HB.out.keep gW).c4'
    by_cases hlt : k < l.length
    · obtain ⟨x, hx⟩ : ∃ x, l[k]? = some x := ⟨l[k], by simp [hlt]⟩
      obtain ⟨y0, y1⟩ := hB x (List.mem_of_getElem? hx)
      obtain ⟨b1, o1, rfl, h1, cc⟩ := IRow.get (HR.out.grow gW) hx
      have hs : sumS false (diag (l.take (k + 1))) = sumS false (diag (l.take k)) + x := by
        rw [List.take_add_one, hx, Option.toList_some, diag_app, sumS_app]
        simp
      have hd : badS false lo (diag (l.take (k + 1))) = badS false lo (diag (l.take k)) + if x < lo then 1 else 0 := by
        rw [List.take_add_one, hx, Option.toList_some, diag_app, badS_app]
        simp
      rw [x4] at x1 x3
      have HS := Lib.hid hs
      have HD := Lib.hid hd
      generalize sumS false (diag (l.take k)) = S at *
      generalize badS false lo (diag (l.take k)) = B at *
      clear hs hd hx x4
      by_cases hlo : x < lo
      · go_upto_region 6 with fail
        go_quiet (fail)
        go_wp2
        go_roundw
        case rel => exact Lib.hid ⟨k + 1, by omega, by go_num, gW.drewN _, by rw [HS.out], by rw [HD.out, if_pos hlo]⟩
        case measure => simp [intOf]; omega
      · go_upto_region 6 with fail
        go_quiet (fail)
        go_wp2
        go_roundw
        case rel => exact Lib.hid ⟨k + 1, by omega, by go_num, gW.drewN _, by rw [HS.out], by rw [HD.out, if_neg hlo, Int.add_zero]⟩
        case measure => simp [intOf]; omega
    · obtain rfl : k = l.length := by omega
      rw [List.take_length] at *
      have E0 : passB false te me lo ba (diag l) = (decide (badS false lo (diag l) ≤ ba) && decide (te * me ≤ sumS false (diag l))) := rfl
      generalize sumS false (diag l) = S at *
      generalize badS false lo (diag l) = B at *
      by_cases hm : te * me ≤ S
      · have E := Lib.hid (E0.trans (show (decide (B ≤ ba) && decide (te * me ≤ S)) = decide (B ≤ ba) by simp [hm]))
        clear E0
        go_wp2
        go_ret
        exact ⟨ret_bool E.out.symm, GG.out.tr gW⟩
      · have E := Lib.hid (E0.trans (show (decide (B ≤ ba) && decide (te * me ≤ S)) = false by simp [hm]))
        have hm' : decide (te * me ≤ S) = false := by simpa using hm
        clear E0
        go_wp2
        go_ret
        exact ⟨ret_bool E.out.symm, GG.out.tr gW⟩

end Go.Proofs.Ytkfhmfidgdpeiaa

namespace Go.Proofs.Ytkfhmfidgdpeiaa
set_option linter.unusedVariables false
set_option linter.unusedSimpArgs false
open Go.RowKit

/-- A lot is handed back. -/
def LotPost (n : Nat) (me lo ba off : Int) (T : List V2) (w : World) (e : Ending) (w' : World) : Prop :=
  ∃ A Ao R Ro c d, e = .returned (.tuple #[.agg #[.int .i64 (n : Int), .int .i64 me, .int .i64 lo, .int .i64 ba], .int .i64 off, .slice (some ⟨A, Ao, none⟩) n c, .slice (some ⟨R, Ro, none⟩) n d]) ∧ IRow w' (some ⟨A, Ao, none⟩) (lotTru T n) ∧ IRow w' (some ⟨R, Ro, none⟩) (lotRea T off n) ∧ n ≤ c ∧ n ≤ d ∧ Gr w w'

theorem Apart.after {v u : Value} {g n c H : Nat} (h : Apart v u) (hg : u.ownBlock = some g ∨ g = H) (hv : ∀ b, v.ownBlock = some b → b < H) : Apart v (.slice (some ⟨g, 0, none⟩) n c) := by
  intro b hb hc
  simp only [Value.ownBlock, Option.some.injEq] at hc
  subst hc
  rcases hg with hg | rfl
  · exact h g hb hg
  · have := hv _ hb
    omega

theorem owns_apart {w w' : World} {base : Nat} {e : TypeId} {sz : Nat} {u v : Value} {n : Nat} {xs : List Value} (h : w.ownsRow base e sz u n xs) (hg : w.grownBy w' v.ownBlock) (ha : Apart u v) : w'.ownsRow base e sz u n xs :=
  h.kept hg (by
    cases hub : u.ownBlock with
    | none => exact .inl rfl
    | some b => exact .inr (fun he => ha b hub he.symm))

def TestHeld (b : Nat) (va vb : Int) (u : World) : Prop := u.cell? ⟨b, 0, none⟩ = some (.int .u8 va) ∧ u.cell? ⟨b, 1, none⟩ = some (.int .u8 vb)

def LotHeld (b : Nat) (r0 r1 r2 r3 of : Int) (u : World) : Prop := u.cell? ⟨b, 0, none⟩ = some (.int .u8 r0) ∧ u.cell? ⟨b, 1, none⟩ = some (.int .u8 r1) ∧ u.cell? ⟨b, 2, none⟩ = some (.int .u8 r2) ∧ u.cell? ⟨b, 3, none⟩ = some (.int .u8 r3) ∧ u.cell? ⟨b, 4, none⟩ = some (.int .u8 of)

set_option maxRecDepth 100000 in
set_option maxHeartbeats 4000000 in
theorem lot_any (r0 r1 r2 r3 of : Int) (T : List V2) (hT : ∀ v ∈ T, B2 v) (h0 : 0 ≤ r0 ∧ r0 ≤ 255) (h1 : 0 ≤ r1 ∧ r1 ≤ 255) (h2 : 0 ≤ r2 ∧ r2 ≤ 255) (h3 : 0 ≤ r3 ∧ r3 ≤ 255) (h4 : 0 ≤ of ∧ of ≤ 255)
    (n : Nat) (hn : 1 + r0 % 8 = (n : Int)) (ba : Int) (hba : r3 % ((n : Int) + 1) = ba) (off : Int) (hoff : of % 40 = off) (ta : Option Addr) (tc : Nat) (w : World) (rt : Row2 w ta T) :
    Calls Try.prog 49 #[.agg #[.int .u8 r0, .int .u8 r1, .int .u8 r2, .int .u8 r3, .int .u8 of, .slice ta T.length tc]] w (LotPost n r1 r2 ba off T w) := by
  have gg := (Gr.al w (.cells #[.int .u8 r0, .int .u8 r1, .int .u8 r2, .int .u8 r3, .int .u8 of, .slice ta T.length tc] 83)).tr (Gr.al _ (.cells #[.int .i64 0, .int .i64 0, .int .i64 0, .int .i64 0] 23))
  have hx := (Box.new w [.int .u8 r0, .int .u8 r1, .int .u8 r2, .int .u8 r3, .int .u8 of, .slice ta T.length tc] 83 w.heap.size rfl).keep (Gr.al _ (.cells #[.int .i64 0, .int .i64 0, .int .i64 0, .int .i64 0] 23))
  have hc := Own.new (w.alloc (.cells #[.int .u8 r0, .int .u8 r1, .int .u8 r2, .int .u8 r3, .int .u8 of, .slice ta T.length tc] 83)) [.int .i64 0, .int .i64 0, .int .i64 0, .int .i64 0] 23 (w.heap.size + 1) (by simp)
  have HT := Lib.hid hT
  clear hT
  go_enter Try.func49, Try.ntmps49
  go_upto_region 1 with fail
  refine wp_abs (fun U => Gr w U ∧ Box U w.heap.size [.int .u8 r0, .int .u8 r1, .int .u8 r2, .int .u8 r3, .int .u8 of, .slice ta T.length tc] ∧ Own U (w.heap.size + 1) [.int .i64 0, .int .i64 0, .int .i64 0, .int .i64 0]) ⟨gg, hx, hc⟩ ?_
  clear gg hx hc
  rintro U ⟨gg, hx, hc⟩
  have n1 : 1 ≤ n := by omega
  have n2 : n ≤ 8 := by omega
  have o0 : 0 ≤ off := by omega
  have o1 : off ≤ 39 := by omega
  have b0 : 0 ≤ ba := by rw [← hba]; exact Int.emod_nonneg _ (by omega)
  have b1 : ba < (n : Int) + 1 := by rw [← hba]; exact Int.emod_lt_of_pos _ (by omega)
  have z0 : r0.tmod 8 = r0 % 8 := Int.tmod_eq_emod_of_nonneg h0.1
  have z1 : IntKind.i64.wrap (1 + r0 % 8) = (n : Int) := by rw [IntWalk.i64_in _ (by omega)]; exact hn
  have z2 : IntKind.i64.wrap ((n : Int) + 1) = (n : Int) + 1 := IntWalk.i64_in _ (by omega)
  have z3 : ¬ ((n : Int) + 1 = 0) := by omega
  have z4 : r3.tmod ((n : Int) + 1) = ba := by rw [Int.tmod_eq_emod_of_nonneg h3.1]; exact hba
  have z5 : of.tmod 40 = off := by rw [Int.tmod_eq_emod_of_nonneg h4.1]; exact hoff
  have w1 : IntKind.i64.wrap r1 = r1 := IntWalk.i64_in _ (by omega)
  have w2 : IntKind.i64.wrap r2 = r2 := IntWalk.i64_in _ (by omega)
  have w3 : IntKind.i64.wrap r3 = r3 := IntWalk.i64_in _ (by omega)
  have w4 : IntKind.i64.wrap of = of := IntWalk.i64_in _ (by omega)
  have w5 : IntKind.i64.wrap ba = ba := IntWalk.i64_in _ (by omega)
  have w6 : IntKind.i64.wrap off = off := IntWalk.i64_in _ (by omega)
  obtain ⟨q0, q1, q2, q3, q4, q5⟩ := hx.c6
  go_upto_region 2 with fail
  have hF : LotHeld w.heap.size r0 r1 r2 r3 of U.drew := ⟨q0, q1, q2, q3, q4⟩
  haveI : Nonempty (AtW (LotHeld w.heap.size r0 r1 r2 r3 of)) := ⟨⟨_, hF⟩⟩
  have x1_ : ∀ u : AtW (LotHeld w.heap.size r0 r1 r2 r3 of), u.val.cell? ⟨w.heap.size, 1, none⟩ = some (.int .u8 r1) := fun u => u.property.2.1
  have x2_ : ∀ u : AtW (LotHeld w.heap.size r0 r1 r2 r3 of), u.val.cell? ⟨w.heap.size, 2, none⟩ = some (.int .u8 r2) := fun u => u.property.2.2.1
  have x3_ : ∀ u : AtW (LotHeld w.heap.size r0 r1 r2 r3 of), u.val.cell? ⟨w.heap.size, 3, none⟩ = some (.int .u8 r3) := fun u => u.property.2.2.2.1
  have x4_ : ∀ u : AtW (LotHeld w.heap.size r0 r1 r2 r3 of), u.val.cell? ⟨w.heap.size, 4, none⟩ = some (.int .u8 of) := fun u => u.property.2.2.2.2
  clear q0 q1 q2 q3 q4 q5
  refine wp_region_ord (fun w' => ∃ u : AtW (LotHeld w.heap.size r0 r1 r2 r3 of), w' = u.val) 23 ((List.range' 0 21).map (fun i => (i, true)) ++ [(21, false), (22, false)]) (by kernel_rfl) (by kernel_rfl) ⟨⟨_, hF⟩, rfl⟩ ?_
  refine ord_seg 0 21 (by kernel_rfl) (fun d _ _ _ _ h => by cases d <;> exact h) ?_
  simp only [List.drop_zero, List.take_succ_cons, List.take_zero]
  repeat (go_big_quiet_step (fail))
  refine wpQuiet_nil ?_
  clear x1_ x2_ x3_ x4_
  refine wpOp_step rfl (fun K' hK => ?_)
  go_simp
  have g1 := (Gr.dr U).tr (Gr.al U.drew (.cells #[.int .i64 0, .int .i64 0, .int .i64 0, .int .i64 0] 23))
  obtain ⟨q0, q1, q2, q3, q4, q5⟩ := (hx.keep g1).c6
  refine hK _ _ ⟨⟨⟨_, q0, q1, q2, q3, q4⟩, rfl⟩, ?_⟩
  clear hK q0 q1 q2 q3 q4 q5
  refine wpOp_step rfl (fun K' hK => ?_)
  go_simp
  have gB := (Gr.al U (.cells #[.int .i64 (n : Int), .int .i64 r1, .int .i64 r2, .int .i64 ba] 23)).tr (Gr.dr _)
  have bB := (Box.new U [.int .i64 (n : Int), .int .i64 r1, .int .i64 r2, .int .i64 ba] 23 U.heap.size rfl).keep (Gr.dr _)
  obtain ⟨q0, q1, q2, q3, q4, q5⟩ := (hx.keep gB).c6
  refine hK _ _ ⟨⟨⟨_, q0, q1, q2, q3, q4⟩, rfl⟩, ?_⟩
  clear hK q0 q1 q2 q3 q4 q5
  show wpList _ _ _ (List.drop 23 _) _ _
  simp only [List.drop_succ_cons, List.drop_zero]
  go_upto_region 3 with fail
  obtain ⟨D, hD⟩ : ∃ D, D = U.heap.size := ⟨_, rfl⟩
  have hDne : ¬ D = w.heap.size + 1 := by have := hc.1.1; omega
  have hDne : ¬ D = w.heap.size + 1 := by have := hc.1.1; omega
  rw [← hD] at bB ⊢
  refine wp_abs (fun V => Gr w V ∧ Box V w.heap.size [.int .u8 r0, .int .u8 r1, .int .u8 r2, .int .u8 r3, .int .u8 of, .slice ta T.length tc] ∧ Own V (w.heap.size + 1) [.int .i64 0, .int .i64 0, .int .i64 0, .int .i64 0] ∧ Box V D [.int .i64 (n : Int), .int .i64 r1, .int .i64 r2, .int .i64 ba]) ⟨gg.tr gB, hx.keep gB, hc.keep gB, bB⟩ ?_
  clear gg hx hc bB gB g1 hD hF z0 z1 z2 z3 z4 z5 w1 w2 w3 w4 w5 w6 h0 h1 h2 h3 h4 hn hba hoff
  rintro V ⟨gg, hx, hc, hd⟩
  obtain ⟨i0, hi, hz0, hz1, hz2⟩ := info_parts infoInt
  have gV := (Gr.al V (.cells #[] 3)).tr (Gr.al _ (.cells #[] 3))
  have oA := owns_keep (owns_empty V 3 1) (Gr.al _ (.cells #[] 3))
  have oR := owns_base (owns_empty (V.alloc (.cells #[] 3)) 3 1) (show V.heap.size ≤ (V.alloc (.cells #[] 3)).heap.size by simp)
  go_wp2
  go_loopw [11, 9, 10] (fun i s t wr => Hid (∃ k : Nat, k ≤ n ∧ i = .int .i64 k ∧ Gr V wr ∧ wr.ownsRow V.heap.size 3 1 s k ((lotTru T k).flatMap encI) ∧ wr.ownsRow V.heap.size 3 1 t k ((lotRea T off k).flatMap encI) ∧ Apart s t)) (fun i s t wr => n - (intOf i).toNat)
  case atStart => exact Lib.hid ⟨0, Nat.zero_le _, rfl, gV, oA, by simpa [lotRea] using oR, Apart.lit (by simp)⟩
  case round =>
    clear gV oA oR
    obtain ⟨k, hk, rfl, gW, oA, oR, hap⟩ := hrel.out
    clear hrel
    by_cases hlt : k < n
    · obtain ⟨va, vb, hv⟩ : ∃ a b, lotT T k = ⟨a, b⟩ := ⟨_, _, rfl⟩
      obtain ⟨⟨a0, a1⟩, c0, c1⟩ : (0 ≤ va ∧ va ≤ 255) ∧ (0 ≤ vb ∧ vb ≤ 255) := by have := lotT_bd HT.out k; rw [hv] at this; exact this
      have hA : lotA T k = va := by unfold lotA; rw [hv]
      have hR : lotR T off k = max 0 (va + vb % (2 * off + 1) - off) := by unfold lotR; rw [hv]
      have HA := Lib.hid hA
      have HR := Lib.hid hR
      have gT := Gr.al wr (.cells #[.int .u8 100, .int .u8 0] 100)
      obtain ⟨q0, q1, q2, q3, q4, q5⟩ := (hx.keep (gW.tr gT)).c6
      clear q0 q1 q2 q3 q4 hA hR
      have k1 : k + 1 ≤ maxLen := by unfold maxLen; omega
      have k2 : (k + 1) * 8 ≤ 140737488355328 := by omega
      by_cases hT : k < T.length
      · obtain ⟨x, hx'⟩ : ∃ x, T[k]? = some x := ⟨T[k], by simp [hT]⟩
        obtain rfl : x = ⟨va, vb⟩ := by rw [← hv]; unfold lotT; rw [hx']
        obtain ⟨tb, tof, rfl, ht, e0, e1⟩ := Row2.get (rt.grow (gg.tr (gW.tr gT))) hx'
        dsimp only at e0 e1
        clear hx' hv
        go_upto_region 10 with fail
        refine wp_abs (fun X => Gr wr X ∧ Box X wr.heap.size [.int .u8 va, .int .u8 vb]) ⟨Gr.al wr _, Box.new wr [.int .u8 va, .int .u8 vb] 100 wr.heap.size rfl⟩ ?_
        clear q5
        clear e0 e1
        rintro X ⟨gX, hb⟩
        obtain ⟨p0, p1⟩ := hb.c2
        have y0 : IntKind.i64.wrap va = va := IntWalk.i64_in _ (by omega)
        go_upto_region 11 with (at_builtin; refine wpList_append_sep _ rfl _ _ 24 rfl V.heap.size 3 i0 (.int .i64 0) 1 8 Try.underlying24 hi hz0 hz1 hz2 rfl (by decide) _ _ _ rfl (owns_keep oA (gX.tr (Gr.al X (.cells #[.int .i64 va] 3)))) ⟨X.heap.size, 0, none⟩ 1 1 ([va].map (fun n => Value.int .i64 n)) rfl rfl (cell_news _ _ _) (ints_one _) k1 k2 ((gW.tr (gX.tr (Gr.al _ _))).size) _ _ _ (owns_keep oR (gX.tr (Gr.al X (.cells #[.int .i64 va] 3)))) hap ?_; intro sv Y hA2 hgr hR2 hap2)
        have hneR : ∀ r, u10.ownBlock = some r → V.heap.size ≤ r ∧ r < wr.heap.size := oR.lt
        have hne : ∀ r, u9.ownBlock = some r → V.heap.size ≤ r ∧ r < wr.heap.size := oA.lt
        have hbY := (hb.keep (Gr.al X (.cells #[.int .i64 va] 3))).grown hgr (fun r hr => by have := hne r hr; omega)
        have gY := (gW.tr (gX.tr (Gr.al X (.cells #[.int .i64 va] 3)))).grown' (owns_keep oA (gX.tr (Gr.al X _))) (Nat.le_refl _) hgr
        clear hgr p0 p1 y0
        refine wp_abs (fun Z => Gr V Z ∧ Box Z wr.heap.size [.int .u8 va, .int .u8 vb] ∧ Z.ownsRow V.heap.size 3 1 sv (k + 1) ((lotTru T (k + 1)).flatMap encI) ∧ Z.ownsRow V.heap.size 3 1 u10 k ((lotRea T off k).flatMap encI)) ⟨gY, hbY, (by rw [lotTru_succ, flat_snoc, HA.out]; exact hA2), hR2⟩ ?_
        clear gY hbY hA2 hR2 hne hap oA oR gX hb
        rintro Z ⟨gZ, hb, oA, oR⟩
        obtain ⟨e0, e1⟩ := hb.c2
        obtain ⟨m, hm⟩ : ∃ m, vb % (2 * off + 1) = m := ⟨_, rfl⟩
        have m0 : 0 ≤ m := by rw [← hm]; exact Int.emod_nonneg _ (by omega)
        have m1 : m < 2 * off + 1 := by rw [← hm]; exact Int.emod_lt_of_pos _ (by omega)
        have z1 : IntKind.i64.wrap (2 * off) = 2 * off := IntWalk.i64_in _ (by omega)
        have z2 : IntKind.i64.wrap (2 * off + 1) = 2 * off + 1 := IntWalk.i64_in _ (by omega)
        have z3 : ¬ (2 * off + 1 = 0) := by omega
        have z4 : vb.tmod (2 * off + 1) = m := by rw [Int.tmod_eq_emod_of_nonneg c0]; exact hm
        have z5 : IntKind.i64.wrap m = m := IntWalk.i64_in _ (by omega)
        have z6 : IntKind.i64.wrap (va + m) = va + m := IntWalk.i64_in _ (by omega)
        have z7 : IntKind.i64.wrap (va + m - off) = va + m - off := IntWalk.i64_in _ (by omega)
        have z8 : IntKind.i64.wrap va = va := IntWalk.i64_in _ (by omega)
        have z9 : IntKind.i64.wrap vb = vb := IntWalk.i64_in _ (by omega)
        rw [hm] at HR
        have hF : TestHeld wr.heap.size va vb Z.drew := ⟨e0, e1⟩
        haveI : Nonempty (AtW (TestHeld wr.heap.size va vb)) := ⟨⟨_, hF⟩⟩
        have x0_ : ∀ u : AtW (TestHeld wr.heap.size va vb), u.val.cell? ⟨wr.heap.size, 0, none⟩ = some (.int .u8 va) := fun u => u.property.1
        have x1_ : ∀ u : AtW (TestHeld wr.heap.size va vb), u.val.cell? ⟨wr.heap.size, 1, none⟩ = some (.int .u8 vb) := fun u => u.property.2
        clear e0 e1 hm
        refine wp_region_ord (fun w' => ∃ u : AtW (TestHeld wr.heap.size va vb), w' = u.val) 17 ((List.range' 0 14).map (fun i => (i, true)) ++ [(14, false), (15, false), (16, false)]) (by kernel_rfl) (by kernel_rfl) ⟨⟨_, hF⟩, rfl⟩ ?_
        refine ord_seg 0 14 (by kernel_rfl) (fun d _ _ _ _ h => by cases d <;> exact h) ?_
        simp only [List.drop_zero, List.take_succ_cons, List.take_zero]
        repeat (go_big_quiet_step (fail))
        refine wpQuiet_nil ?_
        clear x0_ x1_
        refine wpOp_step rfl (fun K' hK => ?_)
        go_simp
        refine hK _ _ ⟨⟨⟨_, hF⟩, rfl⟩, ?_⟩
        clear hK
        refine wpOp_step rfl (fun K' hK => ?_)
        go_simp
        have gA := Gr.al Z (.cells #[.int .i64 (max 0 (va + m - off))] 3)
        have gB := gA.tr (Gr.dr _)
        obtain ⟨e0, e1⟩ := (hb.keep gB).c2
        refine hK _ _ ⟨⟨⟨_, e0, e1⟩, rfl⟩, ?_⟩
        clear hK
        refine wpOp_step rfl (fun K' hK => ?_)
        refine step_append_lies _ (by rfl) _ _ 24 (by rfl) V.heap.size 3 i0 (.int .i64 0) 1 8 Try.underlying24 hi hz0 hz1 hz2 rfl (by decide) u10 k _ (by rfl) (owns_keep oR gB) ⟨Z.heap.size, 0, none⟩ 1 1 ([max 0 (va + m - off)].map (fun n => Value.int .i64 n)) (by rfl) (by rfl) (cell_news _ _ _) (ints_one _) (by omega) k1 k2 ?_ _ rfl ?_
        · exact (gZ.tr gB).size
        intro gb cap w4 hR4 hgr4 hat4 hlt4
        have hbY := (hb.keep gB).grown hgr4 (fun r hr => by have := hneR r hr; omega)
        have gY := (gZ.tr gB).grown' (owns_keep oR gB) (Nat.le_refl _) hgr4
        have oA4 := owns_apart (owns_keep oA gB) hgr4 hap2
        have hap4 := Apart.after (n := k + 1) (c := cap) hap2 hat4 (fun b hb => by have := (owns_keep oA gB).lt b hb; exact this.2)
        obtain ⟨e0, e1⟩ := hbY.c2
        refine hK _ _ ⟨⟨⟨_, e0, e1⟩, rfl⟩, ?_⟩
        clear hK hgr4 hat4 e0 e1 hbY
        show wpList _ _ _ (List.drop 17 _) _ _
        simp only [List.drop_succ_cons, List.drop_zero]
        clear z1 z2 z3 z4 z5 z6 z7 z8 z9
        go_wp2
        go_roundw
        case rel => exact Lib.hid ⟨k + 1, by omega, by go_num, gY, oA4, (by rw [lotRea_succ, flat_snoc, HR.out]; exact hR4), hap4⟩
        case measure => simp [intOf]; omega
      · obtain ⟨ea, eb⟩ : va = 100 ∧ vb = 0 := by
          have e1 : (⟨100, 0⟩ : V2) = ⟨va, vb⟩ := by rw [← hv]; unfold lotT; rw [List.getElem?_eq_none (by omega)]
          injection e1 with e2 e3
          exact ⟨e2.symm, e3.symm⟩
        clear hv
        go_upto_region 10 with fail
        refine wp_abs (fun X => Gr wr X ∧ Box X wr.heap.size [.int .u8 va, .int .u8 vb]) ⟨Gr.al wr _, (by rw [ea, eb]; exact Box.new wr [.int .u8 100, .int .u8 0] 100 wr.heap.size rfl)⟩ ?_
        clear q5
        clear ea eb
        rintro X ⟨gX, hb⟩
        obtain ⟨p0, p1⟩ := hb.c2
        have y0 : IntKind.i64.wrap va = va := IntWalk.i64_in _ (by omega)
        go_upto_region 11 with (at_builtin; refine wpList_append_sep _ rfl _ _ 24 rfl V.heap.size 3 i0 (.int .i64 0) 1 8 Try.underlying24 hi hz0 hz1 hz2 rfl (by decide) _ _ _ rfl (owns_keep oA (gX.tr (Gr.al X (.cells #[.int .i64 va] 3)))) ⟨X.heap.size, 0, none⟩ 1 1 ([va].map (fun n => Value.int .i64 n)) rfl rfl (cell_news _ _ _) (ints_one _) k1 k2 ((gW.tr (gX.tr (Gr.al _ _))).size) _ _ _ (owns_keep oR (gX.tr (Gr.al X (.cells #[.int .i64 va] 3)))) hap ?_; intro sv Y hA2 hgr hR2 hap2)
        have hneR : ∀ r, u10.ownBlock = some r → V.heap.size ≤ r ∧ r < wr.heap.size := oR.lt
        have hne : ∀ r, u9.ownBlock = some r → V.heap.size ≤ r ∧ r < wr.heap.size := oA.lt
        have hbY := (hb.keep (Gr.al X (.cells #[.int .i64 va] 3))).grown hgr (fun r hr => by have := hne r hr; omega)
        have gY := (gW.tr (gX.tr (Gr.al X (.cells #[.int .i64 va] 3)))).grown' (owns_keep oA (gX.tr (Gr.al X _))) (Nat.le_refl _) hgr
        clear hgr p0 p1 y0
        refine wp_abs (fun Z => Gr V Z ∧ Box Z wr.heap.size [.int .u8 va, .int .u8 vb] ∧ Z.ownsRow V.heap.size 3 1 sv (k + 1) ((lotTru T (k + 1)).flatMap encI) ∧ Z.ownsRow V.heap.size 3 1 u10 k ((lotRea T off k).flatMap encI)) ⟨gY, hbY, (by rw [lotTru_succ, flat_snoc, HA.out]; exact hA2), hR2⟩ ?_
        clear gY hbY hA2 hR2 hne hap oA oR gX hb
        rintro Z ⟨gZ, hb, oA, oR⟩
        obtain ⟨e0, e1⟩ := hb.c2
        obtain ⟨m, hm⟩ : ∃ m, vb % (2 * off + 1) = m := ⟨_, rfl⟩
        have m0 : 0 ≤ m := by rw [← hm]; exact Int.emod_nonneg _ (by omega)
        have m1 : m < 2 * off + 1 := by rw [← hm]; exact Int.emod_lt_of_pos _ (by omega)
        have z1 : IntKind.i64.wrap (2 * off) = 2 * off := IntWalk.i64_in _ (by omega)
        have z2 : IntKind.i64.wrap (2 * off + 1) = 2 * off + 1 := IntWalk.i64_in _ (by omega)
        have z3 : ¬ (2 * off + 1 = 0) := by omega
        have z4 : vb.tmod (2 * off + 1) = m := by rw [Int.tmod_eq_emod_of_nonneg c0]; exact hm
        have z5 : IntKind.i64.wrap m = m := IntWalk.i64_in _ (by omega)
        have z6 : IntKind.i64.wrap (va + m) = va + m := IntWalk.i64_in _ (by omega)
        have z7 : IntKind.i64.wrap (va + m - off) = va + m - off := IntWalk.i64_in _ (by omega)
        have z8 : IntKind.i64.wrap va = va := IntWalk.i64_in _ (by omega)
        have z9 : IntKind.i64.wrap vb = vb := IntWalk.i64_in _ (by omega)
        rw [hm] at HR
        have hF : TestHeld wr.heap.size va vb Z.drew := ⟨e0, e1⟩
        haveI : Nonempty (AtW (TestHeld wr.heap.size va vb)) := ⟨⟨_, hF⟩⟩
        have x0_ : ∀ u : AtW (TestHeld wr.heap.size va vb), u.val.cell? ⟨wr.heap.size, 0, none⟩ = some (.int .u8 va) := fun u => u.property.1
        have x1_ : ∀ u : AtW (TestHeld wr.heap.size va vb), u.val.cell? ⟨wr.heap.size, 1, none⟩ = some (.int .u8 vb) := fun u => u.property.2
        clear e0 e1 hm
        refine wp_region_ord (fun w' => ∃ u : AtW (TestHeld wr.heap.size va vb), w' = u.val) 17 ((List.range' 0 14).map (fun i => (i, true)) ++ [(14, false), (15, false), (16, false)]) (by kernel_rfl) (by kernel_rfl) ⟨⟨_, hF⟩, rfl⟩ ?_
        refine ord_seg 0 14 (by kernel_rfl) (fun d _ _ _ _ h => by cases d <;> exact h) ?_
        simp only [List.drop_zero, List.take_succ_cons, List.take_zero]
        repeat (go_big_quiet_step (fail))
        refine wpQuiet_nil ?_
        clear x0_ x1_
        refine wpOp_step rfl (fun K' hK => ?_)
        go_simp
        refine hK _ _ ⟨⟨⟨_, hF⟩, rfl⟩, ?_⟩
        clear hK
        refine wpOp_step rfl (fun K' hK => ?_)
        go_simp
        have gA := Gr.al Z (.cells #[.int .i64 (max 0 (va + m - off))] 3)
        have gB := gA.tr (Gr.dr _)
        obtain ⟨e0, e1⟩ := (hb.keep gB).c2
        refine hK _ _ ⟨⟨⟨_, e0, e1⟩, rfl⟩, ?_⟩
        clear hK
        refine wpOp_step rfl (fun K' hK => ?_)
        refine step_append_lies _ (by rfl) _ _ 24 (by rfl) V.heap.size 3 i0 (.int .i64 0) 1 8 Try.underlying24 hi hz0 hz1 hz2 rfl (by decide) u10 k _ (by rfl) (owns_keep oR gB) ⟨Z.heap.size, 0, none⟩ 1 1 ([max 0 (va + m - off)].map (fun n => Value.int .i64 n)) (by rfl) (by rfl) (cell_news _ _ _) (ints_one _) (by omega) k1 k2 ?_ _ rfl ?_
        · exact (gZ.tr gB).size
        intro gb cap w4 hR4 hgr4 hat4 hlt4
        have hbY := (hb.keep gB).grown hgr4 (fun r hr => by have := hneR r hr; omega)
        have gY := (gZ.tr gB).grown' (owns_keep oR gB) (Nat.le_refl _) hgr4
        have oA4 := owns_apart (owns_keep oA gB) hgr4 hap2
        have hap4 := Apart.after (n := k + 1) (c := cap) hap2 hat4 (fun b hb => by have := (owns_keep oA gB).lt b hb; exact this.2)
        obtain ⟨e0, e1⟩ := hbY.c2
        refine hK _ _ ⟨⟨⟨_, e0, e1⟩, rfl⟩, ?_⟩
        clear hK hgr4 hat4 e0 e1 hbY
        show wpList _ _ _ (List.drop 17 _) _ _
        simp only [List.drop_succ_cons, List.drop_zero]
        clear z1 z2 z3 z4 z5 z6 z7 z8 z9
        go_wp2
        go_roundw
        case rel => exact Lib.hid ⟨k + 1, by omega, by go_num, gY, oA4, (by rw [lotRea_succ, flat_snoc, HR.out]; exact hR4), hap4⟩
        case measure => simp [intOf]; omega
    · obtain rfl : k = n := by omega
      have h1 := lotTru_len T k
      have h2 := lotRea_len T off k
      obtain ⟨A, c, hvA, rA, _, hcA⟩ := owns_row_cap (enc := encI) (l := lotTru T k) (fun _ => rfl) (by omega) (by rw [h1]; exact oA)
      obtain ⟨R, d, hvR, rR, _, hcR⟩ := owns_row_cap (enc := encI) (l := lotRea T off k) (fun _ => rfl) (by omega) (by rw [h2]; exact oR)
      have nA : NewAt V.heap.size A := fun b o x e => by
        have := oA.lt b (by rw [hvA, e]; rfl)
        omega
      have nR : NewAt V.heap.size R := fun b o x e => by
        have := oR.lt b (by rw [hvR, e]; rfl)
        omega
      obtain ⟨Ab, Ao, rfl, _⟩ := rA.addr (by omega)
      obtain ⟨Rb, Ro, rfl, _⟩ := rR.addr (by omega)
      rw [h1] at hvA hcA
      rw [h2] at hvR hcR
      subst hvA
      subst hvR
      obtain ⟨d0, d1, d2, d3⟩ := (hd.keep gW).c4
      obtain ⟨u0, u1, u2, u3⟩ := (hc.keep gW).1.c4
      have y0 := (hc.keep gW).2 0
      have y1 := (hc.keep gW).2 1
      have y2 := (hc.keep gW).2 2
      have y3 := (hc.keep gW).2 3
      have hVs : w.heap.size + 1 < V.heap.size := hc.1.1
      have hDn : ¬ D = w.heap.size + 1 := hDne
      have hDn' : ¬ w.heap.size + 1 = D := fun h => hDne h.symm
      clear oA oR hap
      go_wp2
      refine bodyPost_ret (v := .tuple #[.agg #[.int .i64 (k : Int), .int .i64 r1, .int .i64 r2, .int .i64 ba], .int .i64 off, .slice (some ⟨Ab, Ao, none⟩) k c, .slice (some ⟨Rb, Ro, none⟩) k d]) (by simp [results, Try.results49, go_sem, u0, u1, u2, u3]) rfl ⟨Ab, Ao, Rb, Ro, c, d, rfl, ?_, ?_, hcA, hcR, ?_⟩
      · exact ((((rA.other nA (by omega)).other nA (by omega)).other nA (by omega)).other nA (by omega))
      · exact ((((rR.other nR (by omega)).other nR (by omega)).other nR (by omega)).other nR (by omega))
      · exact ((((gg.tr gW).setCell (by simp) _).setCell (by simp) _).setCell (by simp) _).setCell (by simp) _

end Go.Proofs.Ytkfhmfidgdpeiaa

namespace Go.Proofs.Ytkfhmfidgdpeiaa
set_option linter.unusedVariables false
set_option linter.unusedSimpArgs false
open Go.RowKit

theorem lints_at (L : List Int) (k : Nat) (hk : k ≤ L.length) (hl : L.length ≤ 1000) (b off cap : Nat) (w : World) (hr : IRow w (some ⟨b, off, none⟩) L) :
    Calls Try.prog 17 #[.slice (some ⟨b, off, none⟩) k cap] w fun e w' => ∃ a' cap', e = .returned (.slice a' k cap') ∧ IRow w' a' (L.take k) ∧ (a' = none → cap' = 0) ∧ k ≤ cap' ∧ Gr w w' := by
  have h := lints_any (L.take k) (by simp; omega) b off cap w (hr.take31 k)
  rw [List.length_take, Nat.min_eq_left hk] at h
  exact h

/-- What Decide says after so many readings. -/
def stK (T : List V2) (n : Nat) (me lo ba off : Int) (k : Nat) : Int := stateL (n : Int) me lo ba (truthsL n off ((lotRea T off n).take k))

/-- Whether the lot passes. -/
def lotP (T : List V2) (n : Nat) (me lo ba : Int) : Bool := passB false (n : Int) me lo ba (diag (lotTru T n))

theorem decide_at (T : List V2) (hT : ∀ v ∈ T, B2 v) (n : Nat) (n1 : 1 ≤ n) (n2 : n ≤ 8) (me lo ba off : Int) (m0 : 0 ≤ me) (m1 : me ≤ 255) (l0 : 0 ≤ lo) (l1 : lo ≤ 255) (b0 : 0 ≤ ba) (b1 : ba ≤ (n : Int)) (o0 : 0 ≤ off) (o1 : off ≤ 39) (k : Nat) (hk : k ≤ n)
    (a : Option Addr) (cap : Nat) (w : World) (hr : IRow w a ((lotRea T off n).take k)) (hn : a = none → cap = 0) :
    Calls Try.prog 19 #[.agg #[.int .i64 (n : Int), .int .i64 me, .int .i64 lo, .int .i64 ba], .slice a k cap, .int .i64 off] w fun e w' => e = .returned (.tuple #[.int .i64 (stK T n me lo ba off k), .int .i64 0]) ∧ Gr w w' := by
  have hl : ((lotRea T off n).take k).length = k := by rw [List.length_take, lotRea_len, Nat.min_eq_left hk]
  have h := decide_ok (n : Int) me lo ba off ((lotRea T off n).take k) (lot_rule n1 (by omega) m0 (by omega) l0 (by omega) b0 b1 o0 (by omega) (by omega) (fun r hr => by have := lotRea_mem hT o0 o1 (List.mem_of_mem_take hr); omega)) a cap w hr hn
  rw [hl, Int.toNat_natCast] at h
  exact h

theorem decide_end (T : List V2) (hT : ∀ v ∈ T, B2 v) (n : Nat) (n1 : 1 ≤ n) (n2 : n ≤ 8) (me lo ba : Int) (m0 : 0 ≤ me) (m1 : me ≤ 255) (l0 : 0 ≤ lo) (l1 : lo ≤ 255) (b0 : 0 ≤ ba) (b1 : ba ≤ (n : Int))
    (a : Option Addr) (cap : Nat) (w : World) (hr : IRow w a ((lotTru T n).take n)) (hn : a = none → cap = 0) :
    Calls Try.prog 19 #[.agg #[.int .i64 (n : Int), .int .i64 me, .int .i64 lo, .int .i64 ba], .slice a n cap, .int .i64 0] w fun e w' => e = .returned (.tuple #[.int .i64 (if lotP T n me lo ba = true then 1 else 2), .int .i64 0]) ∧ Gr w w' := by
  have hl := lotTru_len T n
  rw [List.take_of_length_le (by omega)] at hr
  have h := decide_ok (n : Int) me lo ba 0 (lotTru T n) (lot_rule n1 (by omega) m0 (by omega) l0 (by omega) b0 b1 (by omega) (by omega) (by omega) (fun r hr => by have := lotTru_mem hT hr; omega)) a cap w hr hn
  rw [hl, Int.toNat_natCast, exact_diag hT] at h
  have e : stateL (n : Int) me lo ba (diag (lotTru T n)) = if lotP T n me lo ba = true then 1 else 2 := by
    unfold lotP stateL
    rw [diag_pass true]
    split <;> rfl
  rw [e] at h
  exact h

theorem passes_at (T : List V2) (hT : ∀ v ∈ T, B2 v) (n : Nat) (n2 : n ≤ 8) (me lo ba : Int) (m0 : 0 ≤ me) (m1 : me ≤ 255) (p : Bool) (hp : lotP T n me lo ba = p) (a : Option Addr) (cap : Nat) (w : World) (hr : IRow w a (lotTru T n)) :
    Calls Try.prog 50 #[.agg #[.int .i64 (n : Int), .int .i64 me, .int .i64 lo, .int .i64 ba], .slice a n cap] w fun e w' => e = .returned (.bool p) ∧ Gr w w' := by
  have hl := lotTru_len T n
  have h := lpasses_any (n : Int) me lo ba (lotTru T n) (by omega) (fun x hx => by have := lotTru_mem hT hx; omega) (by omega) (by omega) m0 (by omega) a cap w hr
  rw [hl] at h
  rw [← hp]
  exact h

theorem sure_at (T : List V2) (hT : ∀ v ∈ T, B2 v) (n : Nat) (me lo ba off : Int) (o0 : 0 ≤ off) (o1 : off ≤ 39) (k : Nat) :
    (stK T n me lo ba off k = 3 ∨ (stK T n me lo ba off k = 1 ∧ lotP T n me lo ba = true) ∨ (stK T n me lo ba off k = 2 ∧ lotP T n me lo ba = false)) ∧ (stK T n me lo ba off k = 3 ∨ stK T n me lo ba off (k + 1) = stK T n me lo ba off k) := by
  have hw := tru_within hT o0 o1 n k
  have hw1 := tru_within hT o0 o1 n (k + 1)
  have ht := take_within n off (lotRea T off n) k
  unfold stK lotP
  by_cases h3 : stateL (n : Int) me lo ba (truthsL n off ((lotRea T off n).take k)) = 3
  · exact ⟨.inl h3, .inl h3⟩
  · refine ⟨.inr ?_, .inr (state_up ht hw1 h3)⟩
    have hi := state_in hw h3
    rcases state_bd (n : Int) me lo ba (truthsL n off ((lotRea T off n).take k)) with h | h | h
    · exact .inl ⟨h, hi.1 h⟩
    · refine .inr ⟨h, ?_⟩
      cases hp : passB false (n : Int) me lo ba (diag (lotTru T n)) with
      | false => rfl
      | true =>
        have := hi.2 hp
        omega
    · exact absurd h h3

end Go.Proofs.Ytkfhmfidgdpeiaa

namespace Go.Proofs.Ytkfhmfidgdpeiaa
set_option linter.unusedVariables false
set_option linter.unusedSimpArgs false
open Go.RowKit

/-- Truths, each one beneath the other. -/
def Beneath : List (Int × Int) → List (Int × Int) → Prop
  | [], [] => True
  | x :: l, y :: m => (x.1 ≤ y.1 ∧ x.2 ≤ y.2) ∧ Beneath l m
  | _, _ => False

theorem beneath_sum (hi : Bool) : ∀ {l m : List (Int × Int)}, Beneath l m → sumS hi l ≤ sumS hi m
  | [], [], _ => Int.le_refl _
  | x :: l, y :: m, h => by
    obtain ⟨⟨a, b⟩, c⟩ := h
    have := beneath_sum hi c
    simp only [sumS]
    cases hi <;> simp <;> omega
  | [], _ :: _, h => h.elim
  | _ :: _, [], h => h.elim

theorem beneath_bad (hi : Bool) (low : Int) : ∀ {l m : List (Int × Int)}, Beneath l m → badS hi low m ≤ badS hi low l
  | [], [], _ => Int.le_refl _
  | x :: l, y :: m, h => by
    obtain ⟨⟨a, b⟩, c⟩ := h
    have := beneath_bad hi low c
    have h1 : (if (if hi then y.2 else y.1) < low then (1 : Int) else 0) ≤ if (if hi then x.2 else x.1) < low then 1 else 0 := by
      cases hi <;> simp only [Bool.false_eq_true, if_false, if_true] <;> split <;> split <;> omega
    simp only [badS]
    omega
  | [], _ :: _, h => h.elim
  | _ :: _, [], h => h.elim

theorem beneath_pass {hi : Bool} {te me low ba : Int} {l m : List (Int × Int)} (h : Beneath l m) (hp : passB hi te me low ba l = true) : passB hi te me low ba m = true := by
  rw [passB_iff] at hp ⊢
  have h1 := beneath_sum hi h
  have h2 := beneath_bad hi low h
  omega

theorem beneath_map {f g : Nat → Int × Int} : ∀ L : List Nat, (∀ k ∈ L, (f k).1 ≤ (g k).1 ∧ (f k).2 ≤ (g k).2) → Beneath (L.map f) (L.map g)
  | [], _ => trivial
  | x :: L, h => ⟨h x List.mem_cons_self, beneath_map L (fun k hk => h k (List.mem_cons_of_mem _ hk))⟩

theorem few_pass (n : Nat) (off : Int) (l xs : List Int) (hx : ∀ x ∈ xs, x ≤ 100000) : Beneath (truthsL n off (l ++ xs)) (truthsL n off (l ++ List.replicate xs.length 100000)) := by
  refine beneath_map _ (fun i _ => ?_)
  unfold truthAt
  by_cases hi : i < l.length
  · rw [List.getElem?_append_left hi, List.getElem?_append_left hi]
    exact ⟨Int.le_refl _, Int.le_refl _⟩
  · rw [List.getElem?_append_right (by omega), List.getElem?_append_right (by omega), List.getElem?_replicate]
    cases hc : xs[i - l.length]? with
    | none =>
      have := List.getElem?_eq_none_iff.1 hc
      rw [if_neg (by omega)]
      exact ⟨Int.le_refl _, Int.le_refl _⟩
    | some r =>
      have h1 := (List.getElem?_eq_some_iff.1 hc).1
      have h2 := hx r (List.mem_of_getElem? hc)
      rw [if_pos h1]
      dsimp only
      omega

theorem few_fail (n : Nat) (off : Int) (l xs : List Int) (hx : ∀ x ∈ xs, 0 ≤ x) : Beneath (truthsL n off (l ++ List.replicate xs.length 0)) (truthsL n off (l ++ xs)) := by
  refine beneath_map _ (fun i _ => ?_)
  unfold truthAt
  by_cases hi : i < l.length
  · rw [List.getElem?_append_left hi, List.getElem?_append_left hi]
    exact ⟨Int.le_refl _, Int.le_refl _⟩
  · rw [List.getElem?_append_right (by omega), List.getElem?_append_right (by omega), List.getElem?_replicate]
    cases hc : xs[i - l.length]? with
    | none =>
      have := List.getElem?_eq_none_iff.1 hc
      rw [if_neg (by omega)]
      exact ⟨Int.le_refl _, Int.le_refl _⟩
    | some r =>
      have h1 := (List.getElem?_eq_some_iff.1 hc).1
      have h2 := hx r (List.mem_of_getElem? hc)
      rw [if_pos h1]
      dsimp only
      omega

/-- The worst and the best rest of the tests decide. -/
theorem few_sure {n : Nat} {me lo ba off : Int} {l xs : List Int} {st rd : Int} (hs : (st = 1 ∧ rd = 100000) ∨ (st = 2 ∧ rd = 0)) (hx : ∀ x ∈ xs, 0 ≤ x ∧ x ≤ 100000) (h : stateL (n : Int) me lo ba (truthsL n off (l ++ xs)) = st) : stAt n me lo ba off l rd xs.length = st := by
  unfold stAt
  rcases hs with ⟨rfl, rfl⟩ | ⟨rfl, rfl⟩
  · rw [state_one] at h ⊢
    exact beneath_pass (few_pass n off l xs (fun x hx' => (hx x hx').2)) h
  · rw [state_two] at h ⊢
    have hb := few_fail n off l xs (fun x hx' => (hx x hx').1)
    constructor
    · cases hp : passB false (n : Int) me lo ba (truthsL n off (l ++ List.replicate xs.length 0)) with
      | false => rfl
      | true =>
        rw [beneath_pass hb hp] at h
        exact absurd h.1 (by decide)
    · cases hp : passB true (n : Int) me lo ba (truthsL n off (l ++ List.replicate xs.length 0)) with
      | false => rfl
      | true =>
        rw [beneath_pass hb hp] at h
        exact absurd h.2 (by decide)

theorem need_spec {n : Nat} {me lo ba off : Int} {l : List Int} {st rd N : Int} (hl : l.length ≤ n) (hN : needL n me lo ba off l st rd = N) :
    (-1 ≤ N ∧ N ≤ (n : Int) - (l.length : Int)) ∧ (0 ≤ N → stAt n me lo ba off l rd N.toNat = st) ∧ (∀ j : Nat, ((j : Int) < N ∨ (N < 0 ∧ (j : Int) ≤ (n : Int) - (l.length : Int))) → stAt n me lo ba off l rd j ≠ st) := by
  unfold needL at hN
  cases hf : (List.range (n + 1 - l.length)).find? (fun k => decide (stAt n me lo ba off l rd k = st)) with
  | none =>
    rw [hf] at hN
    have hN' : -1 = N := hN
    subst hN'
    rw [List.find?_range_eq_none] at hf
    refine ⟨⟨by omega, by omega⟩, fun h => by omega, fun j hj => ?_⟩
    have := hf j (by omega)
    simpa using this
  | some k =>
    rw [hf] at hN
    have hN' : (k : Int) = N := hN
    subst hN'
    have hf' := List.find?_range_eq_some.1 hf
    have hk := List.mem_range.1 hf'.2.1
    refine ⟨⟨by omega, by omega⟩, fun _ => by simpa using hf'.1, fun j hj => ?_⟩
    have := hf'.2.2 j (by omega)
    simpa using this

/-- The rest of the tests by a list. -/
def anyAt (Q : List Int) (rd : Int) (i : Nat) : Int := match Q[i]? with
  | some v => v
  | none => rd

def anyL (Q : List Int) (rd : Int) (n : Nat) : List Int := (List.range n).map (anyAt Q rd)

theorem anyL_succ (Q : List Int) (rd : Int) (n : Nat) : anyL Q rd (n + 1) = anyL Q rd n ++ [anyAt Q rd n] := by simp [anyL, List.range_succ]

theorem anyL_len (Q : List Int) (rd : Int) (n : Nat) : (anyL Q rd n).length = n := by simp [anyL]

theorem anyAt_bd {Q : List Int} {rd : Int} (hQ : ∀ x ∈ Q, 0 ≤ x ∧ x ≤ 65535) (r0 : 0 ≤ rd) (r1 : rd ≤ 100000) (i : Nat) : 0 ≤ anyAt Q rd i ∧ anyAt Q rd i ≤ 100000 := by
  unfold anyAt
  split
  · rename_i v hv
    have := hQ v (List.mem_of_getElem? hv)
    omega
  · omega

theorem anyL_bd {Q : List Int} {rd : Int} (hQ : ∀ x ∈ Q, 0 ≤ x ∧ x ≤ 65535) (r0 : 0 ≤ rd) (r1 : rd ≤ 100000) {n : Nat} {x : Int} (hx : x ∈ anyL Q rd n) : 0 ≤ x ∧ x ≤ 100000 := by
  simp only [anyL, List.mem_map, List.mem_range] at hx
  obtain ⟨i, _, rfl⟩ := hx
  exact anyAt_bd hQ r0 r1 i

def encH (n : Int) : List Value := [.int .u16 n]

abbrev HRow := RowOf 1 encH

theorem HRow.get {w : World} {a : Option Addr} {l : List Int} (h : HRow w a l) {j : Nat} {x : Int} (hx : l[j]? = some x) :
    ∃ b off, a = some ⟨b, off, none⟩ ∧ b < w.heap.size ∧ w.cell? ⟨b, off + j, none⟩ = some (.int .u16 x) := by
  obtain ⟨b, off, ha, hb, hc⟩ := h.2 j x hx
  have := hc 0 (.int .u16 x) rfl
  exact ⟨b, off, ha, hb, by simpa using this⟩

/-- The copy, as a row of the call's own. -/
theorem lints_own (l : List Int) (hl : l.length ≤ 1000) (b off cap : Nat) (w : World) (hr : IRow w (some ⟨b, off, none⟩) l) :
    Calls Try.prog 17 #[.slice (some ⟨b, off, none⟩) l.length cap] w fun e w' => ∃ v, e = .returned v ∧ w'.ownsRow w.heap.size 3 1 v l.length (l.flatMap encI) ∧ Gr w w' := by
  obtain ⟨i0, hi, hz0, hz1, hz2⟩ := info_parts infoInt
  have hr1 := hr.grow (Gr.al w (.cells #[] 3))
  have h1 : 0 + l.length ≤ maxLen := by unfold maxLen; omega
  have h2 : (0 + l.length) * 8 ≤ 140737488355328 := by omega
  have hfl := flat_len (enc := encI) (sz := 1) (fun _ => rfl) l
  have hnews := row_news (enc := encI) (sz := 1) (fun _ => rfl) hr1
  have Hfl := Lib.hid hfl
  have Hnews := Lib.hid hnews
  clear hfl hnews
  go_enter Try.func17, Try.ntmps17
  go_wp2_with (at_builtin; refine wpList_append_own _ rfl _ _ 24 rfl w.heap.size 3 i0 (.int .i64 0) 1 8 Try.underlying24 hi hz0 hz1 hz2 rfl (by decide) _ _ _ rfl (owns_empty w _ _) ⟨b, off, none⟩ l.length cap (l.flatMap encI) rfl Hfl.out Hnews.out (one_flat (fun x u hu => by simp [encI] at hu; subst hu; rfl) l) h1 h2 (by simp) ?_; intro v' w1 hown hgrow _)
  have Ho := Lib.hid (show w1.ownsRow w.heap.size 3 1 v' l.length (l.flatMap encI) by simpa using hown)
  clear hown
  go_wp2
  go_ret
  exact ⟨v', rfl, Ho.out, (Gr.al w _).grown' (owns_empty w _ 1) (Nat.le_refl _) hgrow⟩

theorem lints_own_at (L : List Int) (k : Nat) (hk : k ≤ L.length) (hl : L.length ≤ 1000) (b off cap : Nat) (w : World) (hr : IRow w (some ⟨b, off, none⟩) L) :
    Calls Try.prog 17 #[.slice (some ⟨b, off, none⟩) k cap] w fun e w' => ∃ v, e = .returned v ∧ w'.ownsRow w.heap.size 3 1 v k ((L.take k).flatMap encI) ∧ Gr w w' := by
  have h := lints_own (L.take k) (by simp; omega) b off cap w (hr.take31 k)
  rw [List.length_take, Nat.min_eq_left hk] at h
  exact h

/-- Need after so many readings. -/
theorem need_at (T : List V2) (hT : ∀ v ∈ T, B2 v) (n : Nat) (n1 : 1 ≤ n) (n2 : n ≤ 8) (me lo ba off : Int) (m0 : 0 ≤ me) (m1 : me ≤ 255) (l0 : 0 ≤ lo) (l1 : lo ≤ 255) (b0 : 0 ≤ ba) (b1 : ba ≤ (n : Int)) (o0 : 0 ≤ off) (o1 : off ≤ 39) (k : Nat) (hk : k ≤ n)
    (a : Option Addr) (cap : Nat) (w : World) (hr : IRow w a ((lotRea T off n).take k)) (hn : a = none → cap = 0) :
    Calls Try.prog 20 #[.agg #[.int .i64 (n : Int), .int .i64 me, .int .i64 lo, .int .i64 ba], .slice a k cap, .int .i64 off] w fun e w' => e = .returned (.tuple #[.int .i64 (needL n me lo ba off ((lotRea T off n).take k) 1 100000), .int .i64 (needL n me lo ba off ((lotRea T off n).take k) 2 0), .int .i64 0]) ∧ Gr w w' := by
  have hl : ((lotRea T off n).take k).length = k := by rw [List.length_take, lotRea_len, Nat.min_eq_left hk]
  have h := needF_ok (n : Int) me lo ba off ((lotRea T off n).take k) (lot_rule n1 (by omega) m0 (by omega) l0 (by omega) b0 b1 o0 (by omega) (by omega) (fun r hr => by have := lotRea_mem hT o0 o1 (List.mem_of_mem_take hr); omega)) a cap w hr hn
  rw [hl, Int.toNat_natCast] at h
  exact h

/-- Decide of the readings and some more. -/
theorem decide_more (l : List Int) (n : Nat) (n1 : 1 ≤ n) (n2 : n ≤ 8) (me lo ba off : Int) (m0 : 0 ≤ me) (m1 : me ≤ 255) (l0 : 0 ≤ lo) (l1 : lo ≤ 255) (b0 : 0 ≤ ba) (b1 : ba ≤ (n : Int)) (o0 : 0 ≤ off) (o1 : off ≤ 39) (k : Nat) (hk : l.length = k) (hkn : k ≤ n) (hB : ∀ r ∈ l, 0 ≤ r ∧ r ≤ 100000)
    (s : Int) (hs : stateL (n : Int) me lo ba (truthsL n off l) = s) (a : Option Addr) (cap : Nat) (w : World) (hr : IRow w a l) (hn : a = none → cap = 0) :
    Calls Try.prog 19 #[.agg #[.int .i64 (n : Int), .int .i64 me, .int .i64 lo, .int .i64 ba], .slice a k cap, .int .i64 off] w fun e w' => e = .returned (.tuple #[.int .i64 s, .int .i64 0]) ∧ Gr w w' := by
  have h := decide_ok (n : Int) me lo ba off l (lot_rule n1 (by omega) m0 (by omega) l0 (by omega) b0 b1 o0 (by omega) (by omega) hB) a cap w hr hn
  rw [hk, Int.toNat_natCast, hs] at h
  exact h

end Go.Proofs.Ytkfhmfidgdpeiaa
