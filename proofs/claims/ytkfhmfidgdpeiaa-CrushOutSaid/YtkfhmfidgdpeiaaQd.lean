/- crush: what is known of a lot, as more is read of it. Append onto one of two rows: the rows stay apart. Contracts of the law's ints and passes. -/
import Derived.Test.YtkfhmfidgdpeiaaQl
import Derived.Test.YtkfhmfidgdpeiaaQi
import Derived.Test.YtkfhmfidgdpeiaaQm
import Derived.Test.YtkfhmfidgdpeiaaP1
import Derived.BigQuiet
namespace Go.Proofs.Ytkfhmfidgdpeiaa
set_option linter.unusedVariables false
set_option linter.unusedSimpArgs false

/-- Truths that lie within others. -/
def Within : List (Int × Int) → List (Int × Int) → Prop
  | [], [] => True
  | x :: l, y :: m => (x.1 ≤ y.1 ∧ y.2 ≤ x.2) ∧ Within l m
  | _, _ => False

theorem within_sum : ∀ {l m : List (Int × Int)}, Within l m → sumS false l ≤ sumS false m ∧ sumS true m ≤ sumS true l
  | [], [], _ => by simp [sumS]
  | x :: l, y :: m, h => by
    obtain ⟨⟨a, b⟩, c⟩ := h
    obtain ⟨p, q⟩ := within_sum c
    simp only [sumS, Bool.false_eq_true, if_false, if_true]
    omega
  | [], _ :: _, h => h.elim
  | _ :: _, [], h => h.elim

theorem within_bad {low : Int} : ∀ {l m : List (Int × Int)}, Within l m → badS false low m ≤ badS false low l ∧ badS true low l ≤ badS true low m
  | [], [], _ => by simp [badS]
  | x :: l, y :: m, h => by
    obtain ⟨⟨a, b⟩, c⟩ := h
    obtain ⟨p, q⟩ := within_bad (low := low) c
    simp only [badS, Bool.false_eq_true, if_false, if_true]
    have h1 : (if y.1 < low then (1 : Int) else 0) ≤ if x.1 < low then 1 else 0 := by split <;> split <;> omega
    have h2 : (if x.2 < low then (1 : Int) else 0) ≤ if y.2 < low then 1 else 0 := by split <;> split <;> omega
    omega
  | [], _ :: _, h => h.elim
  | _ :: _, [], h => h.elim

theorem passB_iff {hi : Bool} {te me low ba : Int} {l : List (Int × Int)} : passB hi te me low ba l = true ↔ badS hi low l ≤ ba ∧ te * me ≤ sumS hi l := by
  unfold passB
  rw [Bool.and_eq_true, decide_eq_true_eq, decide_eq_true_eq]

theorem within_lo {te me low ba : Int} {l m : List (Int × Int)} (h : Within l m) (hp : passB false te me low ba l = true) : passB false te me low ba m = true := by
  rw [passB_iff] at hp ⊢
  have h1 := within_sum h
  have h2 := within_bad (low := low) h
  omega

theorem within_hi {te me low ba : Int} {l m : List (Int × Int)} (h : Within l m) (hp : passB true te me low ba m = true) : passB true te me low ba l = true := by
  rw [passB_iff] at hp ⊢
  have h1 := within_sum h
  have h2 := within_bad (low := low) h
  omega

theorem within_map {f g : Nat → Int × Int} : ∀ L : List Nat, (∀ k ∈ L, (f k).1 ≤ (g k).1 ∧ (g k).2 ≤ (f k).2) → Within (L.map f) (L.map g)
  | [], _ => trivial
  | x :: L, h => ⟨h x List.mem_cons_self, within_map L (fun k hk => h k (List.mem_cons_of_mem _ hk))⟩

/-- Truths that are known. -/
def diag (l : List Int) : List (Int × Int) := l.map fun t => (t, t)

theorem diag_sum (hi : Bool) : ∀ l, sumS hi (diag l) = sumS false (diag l)
  | [] => rfl
  | x :: l => by
    have := diag_sum hi l
    simp only [diag, List.map_cons] at this ⊢
    cases hi <;> simp [sumS] <;> simpa using this

theorem diag_bad (hi : Bool) (low : Int) : ∀ l, badS hi low (diag l) = badS false low (diag l)
  | [] => rfl
  | x :: l => by
    have := diag_bad hi low l
    simp only [diag, List.map_cons] at this ⊢
    cases hi <;> simp [badS] <;> simpa using this

theorem diag_pass (hi : Bool) (te me low ba : Int) (l : List Int) : passB hi te me low ba (diag l) = passB false te me low ba (diag l) := by
  unfold passB
  rw [diag_sum hi, diag_bad hi]

theorem state_one {te me low ba : Int} {X : List (Int × Int)} : stateL te me low ba X = 1 ↔ passB false te me low ba X = true := by
  unfold stateL
  by_cases h : passB false te me low ba X = true
  · simp [h]
  · rw [if_neg h]
    constructor
    · intro h2
      split at h2 <;> omega
    · intro h2
      exact absurd h2 h

theorem state_two {te me low ba : Int} {X : List (Int × Int)} : stateL te me low ba X = 2 ↔ passB false te me low ba X = false ∧ passB true te me low ba X = false := by
  unfold stateL
  cases h : passB false te me low ba X <;> cases k : passB true te me low ba X <;> simp

theorem state_bd (te me low ba : Int) (X : List (Int × Int)) : stateL te me low ba X = 1 ∨ stateL te me low ba X = 2 ∨ stateL te me low ba X = 3 := by
  unfold stateL
  split
  · exact .inl rfl
  · split
    · exact .inr (.inr rfl)
    · exact .inr (.inl rfl)

/-- What is sure is so in the end. -/
theorem state_in {te me low ba : Int} {X : List (Int × Int)} {T : List Int} (h : Within X (diag T)) (hx : stateL te me low ba X ≠ 3) : (stateL te me low ba X = 1 ↔ passB false te me low ba (diag T) = true) := by
  constructor
  · intro h1
    exact within_lo h (state_one.1 h1)
  · intro hp
    rcases state_bd te me low ba X with h1 | h2 | h3
    · exact h1
    · have h4 := (state_two.1 h2).2
      rw [← diag_pass true] at hp
      rw [within_hi h hp] at h4
      cases h4
    · exact absurd h3 hx

/-- It stays so. -/
theorem state_up {te me low ba : Int} {X Y : List (Int × Int)} {T : List Int} (h : Within X Y) (k : Within Y (diag T)) (hx : stateL te me low ba X ≠ 3) : stateL te me low ba Y = stateL te me low ba X := by
  rcases state_bd te me low ba X with h1 | h2 | h3
  · rw [h1, state_one]
    exact within_lo h (state_one.1 h1)
  · rw [h2, state_two]
    have h4 := (state_two.1 h2).2
    have h5 : passB true te me low ba Y = false := by
      cases h6 : passB true te me low ba Y with
      | false => rfl
      | true =>
        rw [within_hi h h6] at h4
        cases h4
    refine ⟨?_, h5⟩
    cases h6 : passB false te me low ba Y with
    | false => rfl
    | true =>
      have h7 := within_lo k h6
      rw [← diag_pass true] at h7
      rw [within_hi k h7] at h5
      cases h5
  · exact absurd h3 hx

theorem state_diag (te me low ba : Int) (T : List Int) : stateL te me low ba (diag T) ≠ 3 := by
  unfold stateL
  rw [diag_pass true]
  split
  · decide
  · decide

/-- A test of a lot: what is true, and what the gauge is wrong by. -/
structure V2 where
  a : Int
  b : Int

def encV2 (v : V2) : List Value := [.int .u8 v.a, .int .u8 v.b]

abbrev Row2 := RowOf 2 encV2

def B2 (v : V2) : Prop := (0 ≤ v.a ∧ v.a ≤ 255) ∧ (0 ≤ v.b ∧ v.b ≤ 255)

theorem Row2.get {w : World} {a : Option Addr} {l : List V2} (h : Row2 w a l) {j : Nat} {x : V2} (hx : l[j]? = some x) :
    ∃ b o, a = some ⟨b, o, none⟩ ∧ b < w.heap.size ∧ w.cell? ⟨b, o + j * 2, none⟩ = some (.int .u8 x.a) ∧ w.cell? ⟨b, o + j * 2 + 1, none⟩ = some (.int .u8 x.b) := by
  obtain ⟨b, o, ha, hb, hc⟩ := h.2 j x hx
  exact ⟨b, o, ha, hb, hc 0 _ rfl, hc 1 _ rfl⟩

def lotT (T : List V2) (i : Nat) : V2 := match T[i]? with
  | some v => v
  | none => ⟨100, 0⟩

theorem lotT_bd {T : List V2} (h : ∀ v ∈ T, B2 v) (i : Nat) : B2 (lotT T i) := by
  unfold lotT
  split
  · rename_i v hv
    exact h v (List.mem_of_getElem? hv)
  · exact ⟨⟨by decide, by decide⟩, ⟨by decide, by decide⟩⟩

def lotA (T : List V2) (i : Nat) : Int := (lotT T i).a

def lotR (T : List V2) (off : Int) (i : Nat) : Int := max 0 ((lotT T i).a + (lotT T i).b % (2 * off + 1) - off)

def lotTru (T : List V2) (n : Nat) : List Int := (List.range n).map (lotA T)

def lotRea (T : List V2) (off : Int) (n : Nat) : List Int := (List.range n).map (lotR T off)

theorem lotTru_len (T : List V2) (n : Nat) : (lotTru T n).length = n := by simp [lotTru]

theorem lotRea_len (T : List V2) (off : Int) (n : Nat) : (lotRea T off n).length = n := by simp [lotRea]

theorem lotTru_succ (T : List V2) (n : Nat) : lotTru T (n + 1) = lotTru T n ++ [lotA T n] := by simp [lotTru, List.range_succ]

theorem lotRea_succ (T : List V2) (off : Int) (n : Nat) : lotRea T off (n + 1) = lotRea T off n ++ [lotR T off n] := by simp [lotRea, List.range_succ]

theorem lotA_bd {T : List V2} (h : ∀ v ∈ T, B2 v) (i : Nat) : 0 ≤ lotA T i ∧ lotA T i ≤ 255 := (lotT_bd h i).1

theorem lotR_bd {T : List V2} (h : ∀ v ∈ T, B2 v) {off : Int} (o0 : 0 ≤ off) (o1 : off ≤ 39) (i : Nat) : (0 ≤ lotR T off i ∧ lotR T off i ≤ 294) ∧ lotR T off i - off ≤ lotA T i ∧ lotA T i ≤ lotR T off i + off := by
  obtain ⟨⟨a0, a1⟩, b0, b1⟩ := lotT_bd h i
  have m0 := Int.emod_nonneg (lotT T i).b (b := 2 * off + 1) (by omega)
  have m1 := Int.emod_lt_of_pos (lotT T i).b (b := 2 * off + 1) (by omega)
  unfold lotR lotA
  omega

theorem lotRea_take {T : List V2} {off : Int} {n k i : Nat} (hi : i < n) : ((lotRea T off n).take k)[i]? = if i < k then some (lotR T off i) else none := by
  rw [List.getElem?_take]
  simp [lotRea, hi]

theorem lotRea_mem {T : List V2} (h : ∀ v ∈ T, B2 v) {off : Int} (o0 : 0 ≤ off) (o1 : off ≤ 39) {n : Nat} {r : Int} (hr : r ∈ lotRea T off n) : 0 ≤ r ∧ r ≤ 294 := by
  simp only [lotRea, List.mem_map, List.mem_range] at hr
  obtain ⟨i, _, rfl⟩ := hr
  exact (lotR_bd h o0 o1 i).1

theorem lotTru_mem {T : List V2} (h : ∀ v ∈ T, B2 v) {n : Nat} {r : Int} (hr : r ∈ lotTru T n) : 0 ≤ r ∧ r ≤ 255 := by
  simp only [lotTru, List.mem_map, List.mem_range] at hr
  obtain ⟨i, _, rfl⟩ := hr
  exact lotA_bd h i

theorem diag_tru (T : List V2) (n : Nat) : diag (lotTru T n) = (List.range n).map (fun i => (lotA T i, lotA T i)) := by
  simp [diag, lotTru, Function.comp_def]

theorem tru_within {T : List V2} (h : ∀ v ∈ T, B2 v) {off : Int} (o0 : 0 ≤ off) (o1 : off ≤ 39) (n k : Nat) : Within (truthsL n off ((lotRea T off n).take k)) (diag (lotTru T n)) := by
  rw [diag_tru]
  refine within_map _ (fun i hi => ?_)
  rw [List.mem_range] at hi
  have h1 := lotR_bd h o0 o1 i
  have h2 := lotA_bd h i
  unfold truthAt
  rw [lotRea_take hi]
  by_cases hk : i < k
  · rw [if_pos hk]
    dsimp only
    omega
  · rw [if_neg hk]
    dsimp only
    omega

theorem take_within (n : Nat) (off : Int) (L : List Int) (k : Nat) : Within (truthsL n off (L.take k)) (truthsL n off (L.take (k + 1))) := by
  refine within_map _ (fun i hi => ?_)
  unfold truthAt
  rw [List.getElem?_take, List.getElem?_take]
  by_cases hk : i < k
  · rw [if_pos hk, if_pos (by omega)]
    exact ⟨Int.le_refl _, Int.le_refl _⟩
  · rw [if_neg hk]
    dsimp only
    split <;> dsimp only <;> omega

theorem exact_diag {T : List V2} (h : ∀ v ∈ T, B2 v) (n : Nat) : truthsL n 0 (lotTru T n) = diag (lotTru T n) := by
  rw [diag_tru]
  unfold truthsL
  refine List.map_congr_left (fun i hi => ?_)
  rw [List.mem_range] at hi
  have h2 := lotA_bd h i
  unfold truthAt
  rw [show (lotTru T n)[i]? = some (lotA T i) by simp [lotTru, hi]]
  dsimp only
  rw [Int.max_eq_right (by omega), Int.min_eq_right (by omega)]
  simp

theorem lot_rule {n : Nat} {me lo ba off : Int} {l : List Int} (n1 : 1 ≤ n) (n2 : n ≤ 20) (m0 : 0 ≤ me) (m1 : me ≤ 100000) (l0 : 0 ≤ lo) (l1 : lo ≤ 100000) (b0 : 0 ≤ ba) (b1 : ba ≤ (n : Int)) (o0 : 0 ≤ off) (o1 : off ≤ 1000) (hl : l.length ≤ n) (hB : ∀ r ∈ l, 0 ≤ r ∧ r ≤ 100000) : ruleL (n : Int) me lo ba off l = 0 := by
  have h1 : ruleOk (n : Int) me lo ba = true := by
    simp [ruleOk, inB, in1]
    omega
  have h2 : inB 0 1000 [off] = true := by
    simp [inB, in1]
    omega
  have h3 : ¬ (n : Int) < (l.length : Int) := by omega
  have h4 : inB 0 100000 l = true := by
    simp only [inB, List.all_eq_true]
    intro r hr
    have := hB r hr
    simp [in1]
    omega
  unfold ruleL
  rw [if_neg (by rw [h1]; decide), if_neg (by rw [h2]; decide), if_neg h3, if_neg (by rw [h4]; decide)]

end Go.Proofs.Ytkfhmfidgdpeiaa

namespace Go.Proofs.Ytkfhmfidgdpeiaa
set_option linter.unusedVariables false
set_option linter.unusedSimpArgs false
open Go.RowKit

theorem owns_zero {w : World} {base : Nat} {e : TypeId} {size : Nat} {v : Value} {n : Nat} {xs : List Value} (h : w.ownsRow base e size v n xs) : w.ownsRow 0 e size v n xs := by
  obtain ⟨h1, h2⟩ := h
  refine ⟨h1, ?_⟩
  rcases h2 with h2 | ⟨g, cap, cur, hv, _, h3⟩
  · exact .inl h2
  · exact .inr ⟨g, cap, cur, hv, Nat.zero_le _, h3⟩

/-- Two rows that do not lie in one block. -/
def Apart (v u : Value) : Prop := ∀ b, v.ownBlock = some b → u.ownBlock ≠ some b

theorem Apart.symm {v u : Value} (h : Apart v u) : Apart u v := fun b hb hv => h b hv hb

theorem wpList_append_sep {P : Program} (w : World) {ops : Array Oper} {rest : List Oper} {o : Oper} {a : Act} {Q : Exit → Act → World → Prop} (hgd : o.guard = none) (s x : Operand) (t : TypeId)
    (ho : o.op = .call { callee := .builtin .append, args := #[s, x], argTypes := #[t, t] })
    (base : Nat) (e : TypeId) (i : TypeInfo) (z : Value) (size bytes : Nat) (ht : P.underlying t = some (.slice e)) (hi : P.info? e = some i) (hz : i.zero = some z)
    (hsize : i.size = size) (hby : i.bytes = bytes) (hzs : z.cells.size = size) (hsz : 0 < size)
    (v : Value) (n : Nat) (xs : List Value) (hs : a.eval s = v) (hown : w.ownsRow base e size v n xs)
    (ad : Addr) (m c : Nat) (news : List Value) (hx : a.eval x = .slice (some ad) m c) (hl : news.length = m * size) (hnews : ∀ j u, news[j]? = some u → w.cell? (ad.add j) = some u) (h1 : ∀ u ∈ news, u.oneCell' = true)
    (h63 : n + m ≤ maxLen) (hbytes : (n + m) * bytes ≤ 140737488355328) (hbase : base ≤ w.heap.size)
    (u : Value) (k : Nat) (ys : List Value) (hu : w.ownsRow base e size u k ys) (hap : Apart v u)
    (h : ∀ v' w', w'.ownsRow base e size v' (n + m) (xs ++ news) → w.grownBy w' v.ownBlock → w'.ownsRow base e size u k ys → Apart v' u → wpList P ops Q rest (a.put o.dst v') w') : wpList P ops Q (o :: rest) a w := by
  refine wpList_plain hgd fun _ hK => ?_
  obtain ⟨v', w', hr, h2, h3, h4⟩ := run_append_own (P := P) w base t o.type e i z size bytes ht hi hz hsize hby hzs hsz v n xs hown ad m c news hl hnews h1 h63 hbytes hbase
  obtain ⟨v'', w'', hr', _, _, h5⟩ := run_append_new (P := P) w t o.type e i z size bytes ht hi hz hsize hby hzs hsz v n xs (owns_zero hown) ad m c news hl hnews h1 h63 hbytes
  rw [hr] at hr'
  injection hr' with e1 e2
  subst e1
  subst e2
  have hku : w'.ownsRow base e size u k ys := hu.kept h3 (by
    cases hub : u.ownBlock with
    | none => exact .inl rfl
    | some b => exact .inr (fun he => hap b he.symm hub))
  have hap' : Apart v' u := fun b hb hub => by
    rcases (h5 b hb).2 with h6 | h6
    · exact hap b h6 hub
    · have := (hu.lt b hub).2
      omega
  unfold Oper.wp execOp
  simp only [ho, resolve, invoke, builtin, Sem.run_bind, Sem.run_pure, Result.andThen_ok, List.map_toArray, List.map_cons, List.map_nil, hs, hx, hr]
  exact hK _ _ (h v' w' h2 h3 hku hap')

theorem Apart.lit {g k : Nat} {n m c d : Nat} (h : g ≠ k) : Apart (.slice (some ⟨g, 0, none⟩) n c) (.slice (some ⟨k, 0, none⟩) m d) := by
  intro b hb hc
  simp only [Value.ownBlock, Option.some.injEq] at hb hc
  omega

end Go.Proofs.Ytkfhmfidgdpeiaa

namespace Go.Proofs.Ytkfhmfidgdpeiaa
set_option linter.unusedVariables false
set_option linter.unusedSimpArgs false
open Go.RowKit

theorem owns_row_cap {α : Type} {enc : α → List Value} {sz : Nat} {w : World} {base : Nat} {e : TypeId} {v : Value} {l : List α} (he : ∀ x, (enc x).length = sz) (hl : l.length ≤ 9223372036854775807) (h : w.ownsRow base e sz v l.length (l.flatMap enc)) :
    ∃ a cap, v = .slice a l.length cap ∧ RowOf sz enc w a l ∧ (a = none → cap = 0) ∧ l.length ≤ cap := by
  obtain ⟨a, cap, hv, hr⟩ := owns_row he hl h
  refine ⟨a, cap, hv, hr, ?_⟩
  rcases h.2 with ⟨hv2, hn⟩ | ⟨b, cap2, cur, hv2, _, _, hc, _⟩
  · rw [hv2] at hv
    injection hv with e1 e2 e3
    exact ⟨fun _ => e3.symm, by omega⟩
  · rw [hv2] at hv
    injection hv with e1 e2 e3
    subst e1
    subst e3
    exact ⟨fun h => (by cases h), hc⟩

set_option maxHeartbeats 400000 in
theorem lints_any (l : List Int) (hl : l.length ≤ 1000) (b off cap : Nat) (w : World) (hr : IRow w (some ⟨b, off, none⟩) l) :
    Calls Try.prog 17 #[.slice (some ⟨b, off, none⟩) l.length cap] w fun e w' => ∃ a' cap', e = .returned (.slice a' l.length cap') ∧ IRow w' a' l ∧ (a' = none → cap' = 0) ∧ l.length ≤ cap' ∧ Gr w w' := by
  obtain ⟨i0, hi, hz0, hz1, hz2⟩ := info_parts infoInt
  have hr1 := hr.grow (Gr.al w (.cells #[] 3))
  have h1 : 0 + l.length ≤ maxLen := by unfold maxLen; omega
  have h2 : (0 + l.length) * 8 ≤ 140737488355328 := by omega
  have hfl := flat_len (enc := encI) (sz := 1) (fun _ => rfl) l
  have hnews := row_news (enc := encI) (sz := 1) (fun _ => rfl) hr1
  have Hfl := Lib.hid hfl
  have Hnews := Lib.hid hnews
  clear hfl hnews
  go_enter Try.func17, Try.ntmps17
  go_wp2_with (at_builtin; refine wpList_append_own _ rfl _ _ 24 rfl w.heap.size 3 i0 (.int .i64 0) 1 8 Try.underlying24 hi hz0 hz1 hz2 rfl (by decide) _ _ _ rfl (owns_empty w _ _) ⟨b, off, none⟩ l.length cap (l.flatMap encI) rfl Hfl.out Hnews.out (one_flat (fun x u hu => by simp [encI] at hu; subst hu; rfl) l) h1 h2 (by simp) ?_; intro v' w1 hown hgrow _)
  obtain ⟨a', cap', hv, hr2, hn2, hc2⟩ := owns_row_cap (enc := encI) (l := l) (fun _ => rfl) (by omega) (by simpa using hown)
  subst hv
  have Hr2 := Lib.hid hr2
  have Hn2 := Lib.hid hn2
  have Hc2 := Lib.hid hc2
  clear hr2 hn2 hown hc2
  go_wp2
  go_ret
  exact ⟨a', ⟨cap', rfl, Hr2.out, Hn2.out, Hc2.out, (Gr.al w _).grown' (owns_empty w _ 1) (Nat.le_refl _) hgrow⟩⟩

theorem diag_app (l : List Int) (x : Int) : diag (l ++ [x]) = diag l ++ [(x, x)] := by simp [diag]

theorem diag_bd {l : List Int} (hB : ∀ x ∈ l, 0 ≤ x ∧ x ≤ 100000) : ∀ x ∈ diag l, TrB x := by
  intro x hx
  simp only [diag, List.mem_map] at hx
  obtain ⟨t, ht, rfl⟩ := hx
  have := hB t ht
  exact ⟨this.1, this.2, this.1, this.2⟩

set_option maxRecDepth 100000 in
set_option maxHeartbeats 1000000 in
theorem lpasses_any (te me lo ba : Int) (l : List Int) (hl : l.length ≤ 1000) (hB : ∀ x ∈ l, 0 ≤ x ∧ x ≤ 100000) (t0 : 0 ≤ te) (t1 : te ≤ 1000) (m0 : 0 ≤ me) (m1 : me ≤ 100000) (a : Option Addr) (cap : Nat) (w : World) (hr : IRow w a l) :
    Calls Try.prog 50 #[.agg #[.int .i64 te, .int .i64 me, .int .i64 lo, .int .i64 ba], .slice a l.length cap] w fun e w' => e = .returned (.bool (passB false te me lo ba (diag l))) ∧ Gr w w' := by
  have gg := Gr.al w (.cells #[.int .i64 te, .int .i64 me, .int .i64 lo, .int .i64 ba] 23)
  have hb := Box.new w [.int .i64 te, .int .i64 me, .int .i64 lo, .int .i64 ba] 23 w.heap.size rfl
  have HB := Lib.hid hb
  have GG := Lib.hid gg
  have HR := Lib.hid (hr.grow gg)
  have q0 : 0 ≤ te * me := Int.mul_nonneg t0 m0
  have q1 : te * me ≤ 1000 * 100000 := Int.mul_le_mul t1 m1 m0 (by omega)
  clear hb gg hr
  go_enter Try.func50, Try.ntmps50
  go_upto_region 2 with fail
  refine wp_abs (fun W => Gr (w.alloc (.cells #[.int .i64 te, .int .i64 me, .int .i64 lo, .int .i64 ba] 23)) W) (Below.refl _ _) ?_
  intro W hW
  go_wp2
  go_loopw [7, 5, 6] (fun t s b wr => Hid (∃ k : Nat, k ≤ l.length ∧ t = .int .i64 k ∧ Gr (w.alloc (.cells #[.int .i64 te, .int .i64 me, .int .i64 lo, .int .i64 ba] 23)) wr ∧ s = .int .i64 (sumS false (diag (l.take k))) ∧ b = .int .i64 (badS false lo (diag (l.take k))))) (fun t _ _ _ => l.length - (intOf t).toNat)
  case atStart => exact Lib.hid ⟨0, Nat.zero_le _, rfl, hW, rfl, rfl⟩
  case round =>
    obtain ⟨k, hk, rfl, gW, rfl, rfl⟩ := hrel.out
    clear hrel
    obtain ⟨x0, x1⟩ := sumS_bd false (diag (l.take k)) (diag_bd (fun x hx => hB x (List.mem_of_mem_take hx)))
    have x2 := badS_0 false lo (diag (l.take k))
    have x3 := badS_len false lo (diag (l.take k))
    have x4 : (diag (l.take k)).length = min k l.length := by simp [diag]
    obtain ⟨p0, p1, p2, p3⟩ := (HB.out.keep gW).c4'
    by_cases hlt : k < l.length
    · obtain ⟨x, hx⟩ : ∃ x, l[k]? = some x := ⟨l[k], by simp [hlt]⟩
      obtain ⟨y0, y1⟩ := hB x (List.mem_of_getElem? hx)
      obtain ⟨b1, o1, rfl, h1, cc⟩ := IRow.get (HR.out.grow gW) hx
      have hs : sumS false (diag (l.take (k + 1))) = sumS false (diag (l.take k)) + x := by
        rw [List.take_add_one, hx, Option.toList_some, diag_app, sumS_app]
        simp
      have hd : badS false lo (diag (l.take (k + 1))) = badS false lo (diag (l.take k)) + if x < lo then 1 else 0 := by
        rw [List.take_add_one, hx, Option.toList_some, diag_app, badS_app]
        simp
      rw [x4] at x1 x3
      have HS := Lib.hid hs
      have HD := Lib.hid hd
      generalize sumS false (diag (l.take k)) = S at *
      generalize badS false lo (diag (l.take k)) = B at *
      clear hs hd hx x4
      by_cases hlo : x < lo
      · go_upto_region 6 with fail
        go_quiet (fail)
        go_wp2
        go_roundw
        case rel => exact Lib.hid ⟨k + 1, by omega, by go_num, gW.drewN _, by rw [HS.out], by rw [HD.out, if_pos hlo]⟩
        case measure => simp [intOf]; omega
      · go_upto_region 6 with fail
        go_quiet (fail)
        go_wp2
        go_roundw
        case rel => exact Lib.hid ⟨k + 1, by omega, by go_num, gW.drewN _, by rw [HS.out], by rw [HD.out, if_neg hlo, Int.add_zero]⟩
        case measure => simp [intOf]; omega
    · obtain rfl : k = l.length := by omega
      rw [List.take_length] at *
      have E0 : passB false te me lo ba (diag l) = (decide (badS false lo (diag l) ≤ ba) && decide (te * me ≤ sumS false (diag l))) := rfl
      generalize sumS false (diag l) = S at *
      generalize badS false lo (diag l) = B at *
      by_cases hm : te * me ≤ S
      · have E := Lib.hid (E0.trans (show (decide (B ≤ ba) && decide (te * me ≤ S)) = decide (B ≤ ba) by simp [hm]))
        clear E0
        go_wp2
        go_ret
        exact ⟨ret_bool E.out.symm, GG.out.tr gW⟩
      · have E := Lib.hid (E0.trans (show (decide (B ≤ ba) && decide (te * me ≤ S)) = false by simp [hm]))
        have hm' : decide (te * me ≤ S) = false := by simpa using hm
        clear E0
        go_wp2
        go_ret
        exact ⟨ret_bool E.out.symm, GG.out.tr gW⟩

end Go.Proofs.Ytkfhmfidgdpeiaa
