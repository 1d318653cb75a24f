/- A row of boxes of one's own, of which one box is written. CrushFalls' own body. (Made by gen_j8.py.) -/
import Derived.Test.YtjdeojpapdphoaaQY4a
import Derived.Test.YtjdeojpapdphoaaQI33b
namespace Go.Proofs.Ytjdeojpapdphoaa
set_option linter.unusedVariables false
set_option linter.unusedSimpArgs false
open Go.RowKit

theorem owns_own {w : World} {base : Nat} {ty : TypeId} {v : Value} {l : List Ld} (h : w.ownsRow base ty 4 v l.length (l.flatMap encL)) (h0 : 0 < l.length) : ∃ g cap, v = .slice (some ⟨g, 0, none⟩) l.length cap ∧ base ≤ g ∧ Own w g (l.flatMap encL) := by
  obtain ⟨h1, h2⟩ := h
  rcases h2 with ⟨hv, hn⟩ | ⟨g, cap, cur, hv, hb, hh, hcap, hmax, hsz, hx⟩
  · omega
  · have hB : Blk w g cur.toList ty := by
      unfold Blk
      rw [hh]
    have hO := hB.own
    refine ⟨g, cap, hv, hb, ⟨hO.1.1, fun i u hu => hO.1.2 i u ?_⟩, hO.2⟩
    rw [← hx] at hu
    have hlt := (List.getElem?_eq_some_iff.1 hu).1
    rw [List.length_take] at hlt
    rwa [List.getElem?_take_of_lt (by omega)] at hu

theorem owns_both {w : World} {base : Nat} {ty : TypeId} {v : Value} {l : List Ld} (h : w.ownsRow base ty 4 v l.length (l.flatMap encL)) (hl : l.length ≤ 1000) : ∃ a cap, v = .slice a l.length cap ∧ LRow w a l ∧ (0 < l.length → ∃ g, a = some ⟨g, 0, none⟩ ∧ base ≤ g ∧ Own w g (l.flatMap encL)) := by
  obtain ⟨a, cap, hv, hr⟩ := owns_row (enc := encL) (l := l) (fun _ => rfl) (by omega) h
  refine ⟨a, cap, hv, hr, fun h0 => ?_⟩
  obtain ⟨g, cap2, hv2, hb, ho⟩ := owns_own h h0
  rw [hv] at hv2
  injection hv2 with e _ _
  exact ⟨g, e, hb, ho⟩

theorem own_lrow {w : World} {g : Nat} {l : List Ld} (h : Own w g (l.flatMap encL)) (hl : l.length ≤ 1000) : LRow w (some ⟨g, 0, none⟩) l :=
  ⟨by omega, fun j x hj => ⟨g, 0, rfl, h.1.1, fun i u hu => by
    rw [Nat.zero_add]
    exact h.1.2 _ u (flat_get (enc := encL) (sz := 4) (fun _ => rfl) l j i x u hj hu)⟩⟩

theorem set_strong : ∀ (l : List Ld) (i : Nat) (x : Ld) (a b : Int), l[i]? = some x → ((l.flatMap encL).set (i * 4) (.int .i64 a)).set (i * 4 + 1) (.int .i64 b) = (l.set i ⟨a, b, x.wl, x.wh⟩).flatMap encL
  | [], i, x, a, b, h => by simp at h
  | y :: l, 0, x, a, b, h => by
    simp at h
    subst h
    simp [encL]
  | y :: l, i + 1, x, a, b, h => by
    have ih := set_strong l i x a b (by simpa using h)
    have e1 : (i + 1) * 4 = i * 4 + 1 + 1 + 1 + 1 := by omega
    rw [e1]
    simp only [List.flatMap_cons, encL, List.cons_append, List.nil_append, List.set_cons_succ]
    rw [ih]

theorem set_light : ∀ (l : List Ld) (i : Nat) (x : Ld) (a b : Int), l[i]? = some x → ((l.flatMap encL).set (i * 4 + 2) (.int .i64 a)).set (i * 4 + 3) (.int .i64 b) = (l.set i ⟨x.sl, x.sh, a, b⟩).flatMap encL
  | [], i, x, a, b, h => by simp at h
  | y :: l, 0, x, a, b, h => by
    simp at h
    subst h
    simp [encL]
  | y :: l, i + 1, x, a, b, h => by
    have ih := set_light l i x a b (by simpa using h)
    rw [show (i + 1) * 4 + 2 = (i * 4 + 2) + 1 + 1 + 1 + 1 by omega, show (i + 1) * 4 + 3 = (i * 4 + 3) + 1 + 1 + 1 + 1 by omega]
    simp only [List.flatMap_cons, encL, List.cons_append, List.nil_append, List.set_cons_succ]
    rw [ih]

/-- Both stores into a box of a row. -/
theorem own_better {w : World} {g i : Nat} {l : List Ld} {x : Ld} (hx : l[i]? = some x) {a b : Int} (h : Own w g (l.flatMap encL)) : Own ((w.setCell ⟨g, i * 4, none⟩ (.int .i64 a)).setCell ⟨g, i * 4 + 1, none⟩ (.int .i64 b)) g ((l.set i ⟨a, b, x.wl, x.wh⟩).flatMap encL) := by
  have hlt := (List.getElem?_eq_some_iff.1 hx).1
  have hlen := flat_len (enc := encL) (sz := 4) (fun _ => rfl) l
  rw [← set_strong l i x a b hx]
  exact (h.set (i := i * 4) (v := .int .i64 a) (by omega)).set (i := i * 4 + 1) (v := .int .i64 b) (by rw [List.length_set]; omega)

theorem own_lighter {w : World} {g i : Nat} {l : List Ld} {x : Ld} (hx : l[i]? = some x) {a b : Int} (h : Own w g (l.flatMap encL)) : Own ((w.setCell ⟨g, i * 4 + 2, none⟩ (.int .i64 a)).setCell ⟨g, i * 4 + 3, none⟩ (.int .i64 b)) g ((l.set i ⟨x.sl, x.sh, a, b⟩).flatMap encL) := by
  have hlt := (List.getElem?_eq_some_iff.1 hx).1
  have hlen := flat_len (enc := encL) (sz := 4) (fun _ => rfl) l
  rw [← set_light l i x a b hx]
  exact (h.set (i := i * 4 + 2) (v := .int .i64 a) (by omega)).set (i := i * 4 + 3) (v := .int .i64 b) (by rw [List.length_set]; omega)

theorem stored_of {most : Int} {l : List Ld} {t : List Stp} {days : Int} (hm : (l.length : Int) ≤ most) (hl : ∀ x ∈ l, LdOk x ∧ x.sl ≤ x.sh ∧ x.wl ≤ x.wh ∧ x.sh ≤ 20000000 ∧ x.wh ≤ 100000) (ht : tableL t = true) (d0 : 0 ≤ days) (d1 : days ≤ 10000) : storedL most l t days = 0 := by
  have h1 : boxedL most l = 0 := by
    unfold boxedL
    rw [if_neg (by omega)]
    have : l.all okLd = true := by
      rw [List.all_eq_true]
      intro x hx
      obtain ⟨⟨⟨a, b, c, d⟩, e, f⟩, g, hh, i, j⟩ := hl x hx
      simp [okLd, okSpan, inB, in1]
      omega
    rw [this]
    rfl
  unfold storedL
  rw [h1, ht]
  simp [inB, in1]
  omega

theorem high_at {x : Ld} {t : List Stp} {days : Int} (hs : storedL 1 [x] t days = 0) (a : Option Addr) (c : Nat) (W : World) (hr : TRow W a t) (hc : t.length ≤ c) :
    Calls Try.prog 43 #[.agg #[.int .i64 x.sl, .int .i64 x.sh, .int .i64 x.wl, .int .i64 x.wh], .slice a t.length c, .int .i64 days] W fun e w' => e = .returned (.tuple #[.int .i64 ((hiTo (stB x t days) 50 : Nat) : Int), .int .i64 0]) ∧ Gr W w' := by
  obtain ⟨⟨_, hl⟩, hT⟩ := stored_parts hs
  have hx := (hl x (by simp)).1
  obtain ⟨k0, k1⟩ := last_bd hT
  have := hT.t10
  refine (high_ok x hx t days hs (by omega) hT.day (until_pos hT) (until_len t days) k0 k1 a c hc W hr).mono ?_
  rintro e w' ⟨r, rfl, r0, r1, h1, h2, g⟩
  exact ⟨by rw [high_same hx hT r0 r1 h1 h2], g⟩

/-- What a better box is. -/
theorem better_ok {l : List Ld} {i : Nat} {x : Ld} {b0 b1 : Int} (hl : ∀ x ∈ l, LdOk x ∧ x.sl ≤ x.sh ∧ x.wl ≤ x.wh ∧ x.sh ≤ 1069 ∧ x.wh ≤ 284) (hx : l[i]? = some x) (h0 : 0 ≤ b0 ∧ b0 ≤ 255) (h1 : 0 ≤ b1 ∧ b1 ≤ 255) :
    Better l (l.set i ⟨x.sl + b0, x.sh + b0, max 0 (x.wl - b1), max 0 (x.wh - b1)⟩) ∧ ∀ y ∈ l.set i ⟨x.sl + b0, x.sh + b0, max 0 (x.wl - b1), max 0 (x.wh - b1)⟩, LdOk y ∧ y.sl ≤ y.sh ∧ y.wl ≤ y.wh ∧ y.sh ≤ 20000000 ∧ y.wh ≤ 100000 := by
  have h2 := hl x (List.mem_of_getElem? hx)
  obtain ⟨⟨⟨p1, p2, p3, p4⟩, p5, p6⟩, p7, p8, p9, p10⟩ := h2
  refine ⟨Better.set hx (by dsimp only; omega) (by dsimp only; omega), fun y hy => ?_⟩
  rcases List.mem_or_eq_of_mem_set hy with h | rfl
  · obtain ⟨a, b, c, d, e⟩ := hl y h
    exact ⟨a, b, c, by omega, by omega⟩
  · unfold LdOk LdB
    dsimp only
    omega

theorem one_ok {x : Ld} {b0 b1 : Int} (hx : LdOk x ∧ x.sl ≤ x.sh ∧ x.wl ≤ x.wh ∧ x.sh ≤ 1069 ∧ x.wh ≤ 284) (h0 : 0 ≤ b0 ∧ b0 ≤ 255) (h1 : 0 ≤ b1 ∧ b1 ≤ 255) : LdOk ⟨x.sl + b0, x.sh + b0, max 0 (x.wl - b1), max 0 (x.wh - b1)⟩ ∧ x.sl + b0 ≤ x.sh + b0 ∧ max 0 (x.wl - b1) ≤ max 0 (x.wh - b1) ∧ x.sh + b0 ≤ 20000000 ∧ max 0 (x.wh - b1) ≤ 100000 := by
  obtain ⟨⟨⟨p1, p2, p3, p4⟩, p5, p6⟩, p7, p8, p9, p10⟩ := hx
  unfold LdOk LdB
  dsimp only
  omega

/-- Fall of so many equal boxes. -/
theorem fall_rep {x : Ld} {t : List Stp} {days : Int} {m : Nat} (hs : storedL 50 (List.replicate m x) t days = 0) (a c : Option Addr) (cap cc : Nat) (hcc : t.length ≤ cc) (W : World) (hr : LRow W a (List.replicate m x)) (ht : TRow W c t) :
    Calls Try.prog 36 #[.slice a m cap, .slice c t.length cc, .int .i64 days] W fun e w' => (∃ y z v, e = .returned (.tuple #[.int .i64 y, .int .i64 z, .int .i64 v]) ∧ (stB x t days m = true → v = 7) ∧ (stB x t days m = false → v = 0)) ∧ Gr W w' := by
  have h := fall_ok (List.replicate m x) t days hs a c cap cc hcc W hr ht
  rw [List.length_replicate] at h
  refine h.mono ?_
  rintro e w' ⟨rfl, g⟩
  refine ⟨?_, g⟩
  unfold stB
  cases hO : fallO (List.replicate m x) (untilL t days) with
  | none => exact ⟨0, 0, 7, by rw [fallV_none hO], ⟨fun _ => rfl, fun h => by simp at h⟩⟩
  | some q =>
    obtain ⟨s, i⟩ := q
    exact ⟨s.day, (i : Int), 0, by rw [fallV_some hO], ⟨fun h => by simp at h, fun _ => rfl⟩⟩

end Go.Proofs.Ytjdeojpapdphoaa

namespace Go.Proofs.Ytjdeojpapdphoaa
set_option linter.unusedVariables false
set_option linter.unusedSimpArgs false
open Go.RowKit

set_option maxRecDepth 100000 in
set_option maxHeartbeats 400000 in
/-- A copy of boxes, also of none. -/
theorem lboxes_gen (l : List Ld) (hl : l.length ≤ 1000) (a : Option Addr) (cap : Nat) (w : World) (hr : LRow w a l) :
    Calls Try.prog 33 #[.slice a l.length cap] w fun e w' => ∃ a' cap', e = .returned (.slice a' l.length cap') ∧ LRow w' a' l ∧ l.length ≤ cap' ∧ Gr w w' := by
  rcases Nat.eq_zero_or_pos l.length with h0 | h0
  · obtain rfl : l = [] := List.eq_nil_of_length_eq_zero h0
    cases a with
    | none =>
      go_enter Try.func33, Try.ntmps33
      go_wp2
      go_ret
      exact ⟨some ⟨w.heap.size, 0, none⟩, 0, rfl, RowOf.nil, Nat.le_refl _, Gr.al _ _⟩
    | some ad =>
      obtain ⟨i0, hi, hz0, hz1, hz2⟩ := info_parts infoLd
      go_enter Try.func33, Try.ntmps33
      go_wp2_with (at_builtin; refine wpList_append_own _ rfl _ _ 53 rfl w.heap.size 70 i0 _ 4 32 Try.underlying53 hi hz0 hz1 hz2 rfl (by decide) _ _ _ rfl (owns_empty w _ _) ad 0 cap [] rfl rfl (fun j u h => by simp at h) (fun u h => by cases h) (by decide) (by decide) (by simp) ?_; intro v' w1 hown hgrow _)
      obtain ⟨a', cap', hv, hr2, hn2, hc2⟩ := owns_row_cap (enc := encL) (l := []) (fun _ => rfl) (by simp) (by simpa using hown)
      subst hv
      have Hr2 := Lib.hid hr2
      have Hn2 := Lib.hid hn2
      clear hr2 hn2 hown
      go_wp2
      go_ret
      first | exact ⟨a', ⟨cap', rfl⟩, Hr2.out, (Gr.al w _).grown' (owns_empty w _ 4) (Nat.le_refl _) hgrow⟩ | exact ⟨a', cap', rfl, Hr2.out, Nat.zero_le _, (Gr.al w _).grown' (owns_empty w _ 4) (Nat.le_refl _) hgrow⟩
  · obtain ⟨b, off, e, _⟩ := hr.addr h0
    subst e
    refine (lboxes_any l hl b off cap w hr).mono ?_
    rintro e w' ⟨v, rfl, ho, hg⟩
    obtain ⟨a', cp, hv, hr2, _, hc2⟩ := owns_row_cap (enc := encL) (l := l) (fun _ => rfl) (by omega) ho
    exact ⟨a', cp, by rw [hv], hr2, hc2, hg⟩

set_option maxRecDepth 100000 in
set_option maxHeartbeats 1000000 in
/-- Fall of what is not valid. -/
theorem fall_err (l : List Ld) (t : List Stp) (days R : Int) (hs : storedL 50 l t days = R) (hR : R ≠ 0) (a c : Option Addr) (cap cc : Nat) (w : World) (hr : LRow w a l) (ht : TRow w c t) :
    Calls Try.prog 36 #[.slice a l.length cap, .slice c t.length cc, .int .i64 days] w fun e w' => e = .returned (.tuple #[.int .i64 0, .int .i64 0, .int .i64 R]) ∧ Gr w w' := by
  have cS := stored_any 50 l t days a c cap cc w hr ht
  rw [hs] at cS
  have CS := Lib.hid cS
  clear cS hs
  have hne : (R != 0) = true := by simpa using hR
  go_enter Try.func36, Try.ntmps36
  go_wp2_with (go_at_call 75; refine CS.out.mono ?_; rintro e w1 ⟨rfl, g1⟩)
  exact bodyPost_ret (v := .tuple #[.int .i64 0, .int .i64 0, .int .i64 R]) (by simp [results, Try.results36, go_sem]) rfl ⟨rfl, g1⟩

set_option maxRecDepth 100000 in
set_option maxHeartbeats 1000000 in
/-- Loads of what is not valid. -/
theorem loads_err (l : List Ld) (R : Int) (hs : boxedL 50 l = R) (hR : R ≠ 0) (a : Option Addr) (cap : Nat) (w : World) (hr : LRow w a l) :
    Calls Try.prog 35 #[.slice a l.length cap] w fun e w' => e = .returned (.tuple #[.slice none 0 0, .int .i64 R]) ∧ Gr w w' := by
  refine (callsIn_wide (n := 20)).1 ?_
  have cS := boxed_any 50 l a cap w hr
  rw [hs] at cS
  have CS := Lib.hid cS
  clear cS hs
  have hne : (R != 0) = true := by simpa using hR
  refine callsIn_of_wp_marks Try.func35 rfl trivial ?_ rfl
  simp only [Try.ntmps35, List.size_toArray, List.length_cons, List.length_nil, Nat.reduceAdd, Nat.reduceSub, Array.replicate_succ, Array.replicate_zero, List.push_toArray, List.append_toArray, List.nil_append, List.cons_append]
  gi_wp2_with (refine ⟨trivial, ?_⟩; gi_at_call 73; refine (callsIn_wide.2 CS.out).mono ?_; rintro e w1 ⟨rfl, g1⟩)
  refine leaves_marks [] _ (fun E hE => by cases hE) (by simp) fun w' hk' => ?_
  exact ⟨.tuple #[.slice none 0 0, .int .i64 R], by simp [results, Try.results35, go_sem], rfl, g1.tr (Kx.toGr (hk'.mono (fun i e => by simp at e)))⟩

set_option maxRecDepth 100000 in
set_option maxHeartbeats 4000000 in
theorem crushFalls_any (l : List Ld) (t : List Stp) (days : Int) (la ta : Option Addr) (lc tc : Nat) (w : World) (rl : LRow w la l) (rt : TRow w ta t) :
    Calls Try.prog 6 #[.slice la l.length lc, .slice ta t.length tc, .int .i64 days] w fun e w' => e = .returned (.bool true) ∧ Gr w w' := by
  have hl0 := rl.1
  have ht0 := rt.1
  by_cases h60 : 60 < l.length
  · have d0 : decide ((60 : Int) < (l.length : Int)) = true := by simp; omega
    go_enter Try.func6, Try.ntmps6
    go_wp2_with (go_at_call 16; refine (known_any _).mono ?_; rintro e w9 ⟨rfl, g9⟩)
    go_ret
    exact ⟨rfl, g9⟩
  have d0 : decide ((60 : Int) < (l.length : Int)) = false := by simp; omega
  have l60 : l.length ≤ 60 := by omega
  clear h60
  by_cases h15 : 15 < t.length
  · have d1 : decide ((15 : Int) < (t.length : Int)) = true := by simp; omega
    go_enter Try.func6, Try.ntmps6
    go_wp2_with (go_at_call 16; refine (known_any _).mono ?_; rintro e w9 ⟨rfl, g9⟩)
    go_ret
    exact ⟨rfl, g9⟩
  have d1 : decide ((15 : Int) < (t.length : Int)) = false := by simp; omega
  have t15 : t.length ≤ 15 := by omega
  clear h15
  have HBx : Hid (∀ (W' : World), Gr w W' → Calls Try.prog 33 #[.slice la l.length lc] W' fun e w' => ∃ a cp, e = .returned (.slice a l.length cp) ∧ LRow w' a l ∧ l.length ≤ cp ∧ Gr W' w') := Lib.hid (fun W' g => lboxes_gen l (by omega) la lc W' (rl.grow g))
  have HSp : Hid (∀ (W' : World), Gr w W' → Calls Try.prog 34 #[.slice ta t.length tc] W' fun e w' => ∃ a cp, e = .returned (.slice a t.length cp) ∧ TRow w' a t ∧ t.length ≤ cp ∧ Gr W' w') := Lib.hid (fun W' g => lsteps_gen t (by omega) ta tc W' (rt.grow g))
  have HTb : Hid (∀ (a : Option Addr) (c : Nat) (W' : World), TRow W' a t → Gr w W' → Calls Try.prog 38 #[.slice a t.length c, .slice ta t.length tc] W' fun e w' => e = .returned (.bool true) ∧ Gr W' w') := Lib.hid (fun a c W' hr g => refTables_any t a ta c tc W' hr (rt.grow g))
  have HSk : Hid (∀ (a : Option Addr) (c : Nat) (W' : World), LRow W' a l → Gr w W' → Calls Try.prog 37 #[.slice a l.length c, .slice la l.length lc] W' fun e w' => e = .returned (.bool true) ∧ Gr W' w') := Lib.hid (fun a c W' hr g => refStacks_any l a la c lc W' hr (rl.grow g))
  obtain ⟨R1, hR1⟩ : ∃ R, boxedL 50 l = R := ⟨_, rfl⟩
  obtain ⟨R2, hR2⟩ : ∃ R, throughL t days = R := ⟨_, rfl⟩
  have hS : storedL 50 l t days = if boxedL 50 l = 0 then throughL t days else boxedL 50 l := rfl
  rw [hR1, hR2] at hS
  have HSt : Hid (∀ (W' : World), Gr w W' → Calls Try.prog 39 #[.slice la l.length lc, .int .i64 50] W' fun e w' => e = .returned (.int .i64 R1) ∧ Gr W' w') := Lib.hid (fun W' g => refStack_any 50 l R1 hR1 la lc W' (rl.grow g))
  have HTh : Hid (∀ (W' : World), Gr w W' → Calls Try.prog 41 #[.slice ta t.length tc, .int .i64 days] W' fun e w' => e = .returned (.int .i64 R2) ∧ Gr W' w') := Lib.hid (fun W' g => refThrough_any t days R2 hR2 ta tc W' (rt.grow g))
  by_cases h1 : R1 = 0
  · rw [if_pos h1] at hS
    subst h1
    have hok := (boxed_parts hR1).2
    have HLd : Hid (∀ (i : Nat) (W' : World), i < l.length → Gr w W' → Calls Try.prog 40 #[.slice la l.length lc, .int .i64 (i : Int)] W' fun e w' => e = .returned (.agg #[.int .i64 (sumLo (l.drop (i + 1))), .int .i64 (sumHi (l.drop (i + 1)))]) ∧ Gr W' w') := Lib.hid (fun i W' hi g => refLoad_any l (fun x hx => (hok x hx).1) (by omega) i (by omega) la lc W' (rl.grow g))
    obtain ⟨LL, hLL⟩ : ∃ L, spansL l = L := ⟨_, rfl⟩
    have lLL : LL.length = l.length := by rw [← hLL]; exact spansL_len l
    have HLo : Hid (∀ (a : Option Addr) (cp : Nat) (W' : World), LRow W' a l → Calls Try.prog 35 #[.slice a l.length cp] W' fun e w' => ∃ b c, e = .returned (.tuple #[.slice b l.length c, .int .i64 0]) ∧ SRow w' b LL ∧ Gr W' w') := Lib.hid (fun a cp W' hr => by
      have := loads_ok l hR1 a cp W' hr
      rw [hLL, lLL] at this
      exact this)
    have HLL := Lib.hid hLL
    clear lLL hLL
    by_cases h2 : R2 = 0
    · subst h2
      have hT := (stored_parts hS).2
      have hTS : TabS t days := ⟨hT, table_strict (by
        unfold throughL at hR2
        cases c : tableL t with
        | true => rfl
        | false => rw [c] at hR2; simp at hR2)⟩
      have HRF0 := Lib.hid (fun (W' : World) (g : Gr w W') => refFall_any l (fun x hx => (hok x hx).1) (by omega) t days hTS la ta lc tc W' (rl.grow g) (rt.grow g))
      have HFa0 := Lib.hid (fun (a c : Option Addr) (cp cc : Nat) (W' : World) (hcc : t.length ≤ cc) (hr : LRow W' a l) (ht : TRow W' c t) => fall_ok l t days hS a c cp cc hcc W' hr ht)
      clear hok hS hR1 hR2 hT hTS
      cases hO : fallO l (untilL t days) with
      | none =>
        have HRF := HRF0.out
        rw [fallT_none hO] at HRF
        have HFa := HFa0.out
        rw [fallV_none hO] at HFa
        replace HRF := Lib.hid HRF
        replace HFa := Lib.hid HFa
        clear HRF0 HFa0 hO
        go_enter Try.func6, Try.ntmps6
        go_upto_region 13 with (first
            | (go_at_call 33; refine (HBx.out _ (Below.refl _ _)).mono ?_; rintro e w1 ⟨a1, c1, rfl, r1, hc1, g1⟩)
            | (go_at_call 34; refine (HSp.out _ g1).mono ?_; rintro e w2 ⟨a2, c2, rfl, r2, hc2, g2⟩)
            | (go_at_call 35; refine (HLo.out a1 c1 _ (r1.grow g2)).mono ?_; rintro e w3 ⟨x4, y4, rfl, r4, g3⟩)
            | (go_at_call 36; refine (HFa.out a1 a2 c1 c2 _ hc2 (r1.grow (g2.tr g3)) (r2.grow g3)).mono ?_; rintro e w4 ⟨rfl, g4⟩)
            | (go_at_call 37; refine (HSk.out a1 c1 _ (r1.grow (g2.tr (g3.tr g4))) (g1.tr (g2.tr (g3.tr g4)))).mono ?_; rintro e w5 ⟨rfl, g5⟩)
            | (go_at_call 38; refine (HTb.out a2 c2 _ (r2.grow (g3.tr (g4.tr g5))) (g1.tr (g2.tr (g3.tr (g4.tr g5))))).mono ?_; rintro e w6 ⟨rfl, g6⟩)
            | (go_at_call 39; refine (HSt.out _ (g1.tr (g2.tr (g3.tr (g4.tr (g5.tr g6)))))).mono ?_; rintro e w7 ⟨rfl, g7⟩))
        refine wp_abs (fun X => Gr w X ∧ SRow X x4 LL) ⟨g1.tr (g2.tr (g3.tr (g4.tr (g5.tr (g6.tr g7))))), r4.grow (g4.tr (g5.tr (g6.tr g7)))⟩ ?_
        clear r1 r2 r4 g1 g2 g3 g4 g5 g6 g7 HFa HLo HBx HSp HTb HSk HSt
        rintro X ⟨gX, r4⟩
        go_wp2
        go_loopw [15] (fun i wr => Hid (∃ k : Nat, k ≤ l.length ∧ i = .int .i64 k ∧ Gr X wr)) (fun i _ => l.length - (intOf i).toNat)
        case atStart => exact Lib.hid ⟨0, Nat.zero_le _, rfl, Below.refl _ _⟩
        case round =>
          obtain ⟨k, hk, rfl, gW⟩ := hrel.out
          clear hrel
          by_cases hlt : k < l.length
          · have hlm := spans_at hlt
            rw [HLL.out] at hlm
            have hld := HLd.out k
            obtain ⟨lo, hlo⟩ : ∃ z, sumLo (l.drop (k + 1)) = z := ⟨_, rfl⟩
            obtain ⟨hi', hhi⟩ : ∃ z, sumHi (l.drop (k + 1)) = z := ⟨_, rfl⟩
            rw [hlo, hhi] at hlm hld
            have HLk := Lib.hid hld
            clear hld
            obtain ⟨bs, os, rfl, _, c0, c1⟩ := SRow.get (r4.grow gW) hlm
            dsimp only at c0 c1
            have y0 := From.keep c0
            have y1 := From.keep c1
            clear hlm hlo hhi c0 c1
            go_upto_region 16 with fail
            refine wp_region_gr (by kernel_rfl) (by kernel_rfl) ?_
            repeat (go_big_quiet_step (first
              | (go_at_call 40; (with_reducible exact Calls.gr (HLk.out _ hlt (gX.tr (gW.tr (From.property _))))))))
            refine wpQuiet_nil ?_
            rintro _ ⟨u, rfl⟩
            clear y0 y1
            go_wp2
            go_roundw
            case rel => exact Lib.hid ⟨k + 1, by omega, by go_num, gW.tr u.property⟩
            case measure => simp [intOf]; omega
          · obtain rfl : k = l.length := by omega
            clear hlt hk
            have gZ := gX.tr gW
            go_wp2_with (first
              | (go_at_call 41; refine (HTh.out _ gZ).mono ?_; rintro e w8 ⟨rfl, g8⟩)
              | (go_at_call 42; refine (HRF.out _ (gZ.tr g8)).mono ?_; rintro e w10 ⟨rfl, g10⟩)
              | (go_at_call 16; refine (known_any _).mono ?_; rintro e w9 ⟨rfl, g9⟩))
            go_ret
            exact ⟨rfl, gZ.tr (g8.tr (g10.tr g9))⟩
      | some q =>
        obtain ⟨s, i⟩ := q
        have HRF := HRF0.out
        rw [fallT_some hO] at HRF
        have HFa := HFa0.out
        rw [fallV_some hO] at HFa
        replace HRF := Lib.hid HRF
        replace HFa := Lib.hid HFa
        clear HRF0 HFa0 hO
        go_enter Try.func6, Try.ntmps6
        go_upto_region 13 with (first
            | (go_at_call 33; refine (HBx.out _ (Below.refl _ _)).mono ?_; rintro e w1 ⟨a1, c1, rfl, r1, hc1, g1⟩)
            | (go_at_call 34; refine (HSp.out _ g1).mono ?_; rintro e w2 ⟨a2, c2, rfl, r2, hc2, g2⟩)
            | (go_at_call 35; refine (HLo.out a1 c1 _ (r1.grow g2)).mono ?_; rintro e w3 ⟨x4, y4, rfl, r4, g3⟩)
            | (go_at_call 36; refine (HFa.out a1 a2 c1 c2 _ hc2 (r1.grow (g2.tr g3)) (r2.grow g3)).mono ?_; rintro e w4 ⟨rfl, g4⟩)
            | (go_at_call 37; refine (HSk.out a1 c1 _ (r1.grow (g2.tr (g3.tr g4))) (g1.tr (g2.tr (g3.tr g4)))).mono ?_; rintro e w5 ⟨rfl, g5⟩)
            | (go_at_call 38; refine (HTb.out a2 c2 _ (r2.grow (g3.tr (g4.tr g5))) (g1.tr (g2.tr (g3.tr (g4.tr g5))))).mono ?_; rintro e w6 ⟨rfl, g6⟩)
            | (go_at_call 39; refine (HSt.out _ (g1.tr (g2.tr (g3.tr (g4.tr (g5.tr g6)))))).mono ?_; rintro e w7 ⟨rfl, g7⟩))
        refine wp_abs (fun X => Gr w X ∧ SRow X x4 LL) ⟨g1.tr (g2.tr (g3.tr (g4.tr (g5.tr (g6.tr g7))))), r4.grow (g4.tr (g5.tr (g6.tr g7)))⟩ ?_
        clear r1 r2 r4 g1 g2 g3 g4 g5 g6 g7 HFa HLo HBx HSp HTb HSk HSt
        rintro X ⟨gX, r4⟩
        go_wp2
        go_loopw [15] (fun i wr => Hid (∃ k : Nat, k ≤ l.length ∧ i = .int .i64 k ∧ Gr X wr)) (fun i _ => l.length - (intOf i).toNat)
        case atStart => exact Lib.hid ⟨0, Nat.zero_le _, rfl, Below.refl _ _⟩
        case round =>
          obtain ⟨k, hk, rfl, gW⟩ := hrel.out
          clear hrel
          by_cases hlt : k < l.length
          · have hlm := spans_at hlt
            rw [HLL.out] at hlm
            have hld := HLd.out k
            obtain ⟨lo, hlo⟩ : ∃ z, sumLo (l.drop (k + 1)) = z := ⟨_, rfl⟩
            obtain ⟨hi', hhi⟩ : ∃ z, sumHi (l.drop (k + 1)) = z := ⟨_, rfl⟩
            rw [hlo, hhi] at hlm hld
            have HLk := Lib.hid hld
            clear hld
            obtain ⟨bs, os, rfl, _, c0, c1⟩ := SRow.get (r4.grow gW) hlm
            dsimp only at c0 c1
            have y0 := From.keep c0
            have y1 := From.keep c1
            clear hlm hlo hhi c0 c1
            go_upto_region 16 with fail
            refine wp_region_gr (by kernel_rfl) (by kernel_rfl) ?_
            repeat (go_big_quiet_step (first
              | (go_at_call 40; (with_reducible exact Calls.gr (HLk.out _ hlt (gX.tr (gW.tr (From.property _))))))))
            refine wpQuiet_nil ?_
            rintro _ ⟨u, rfl⟩
            clear y0 y1
            go_wp2
            go_roundw
            case rel => exact Lib.hid ⟨k + 1, by omega, by go_num, gW.tr u.property⟩
            case measure => simp [intOf]; omega
          · obtain rfl : k = l.length := by omega
            clear hlt hk
            have gZ := gX.tr gW
            go_wp2_with (first
              | (go_at_call 41; refine (HTh.out _ gZ).mono ?_; rintro e w8 ⟨rfl, g8⟩)
              | (go_at_call 42; refine (HRF.out _ (gZ.tr g8)).mono ?_; rintro e w10 ⟨rfl, g10⟩)
              | (go_at_call 16; refine (known_any _).mono ?_; rintro e w9 ⟨rfl, g9⟩))
            go_ret
            exact ⟨rfl, gZ.tr (g8.tr (g10.tr g9))⟩
    · have HFa := Lib.hid (fun (a c : Option Addr) (cp cc : Nat) (W' : World) (hcc : t.length ≤ cc) (hr : LRow W' a l) (ht : TRow W' c t) => fall_err l t days R2 hS h2 a c cp cc W' hr ht)
      have hne : (R2 == 0) = false := by simpa using h2
      clear hok hS hR1 hR2 h2
      go_enter Try.func6, Try.ntmps6
      go_upto_region 13 with (first
          | (go_at_call 33; refine (HBx.out _ (Below.refl _ _)).mono ?_; rintro e w1 ⟨a1, c1, rfl, r1, hc1, g1⟩)
          | (go_at_call 34; refine (HSp.out _ g1).mono ?_; rintro e w2 ⟨a2, c2, rfl, r2, hc2, g2⟩)
          | (go_at_call 35; refine (HLo.out a1 c1 _ (r1.grow g2)).mono ?_; rintro e w3 ⟨x4, y4, rfl, r4, g3⟩)
          | (go_at_call 36; refine (HFa.out a1 a2 c1 c2 _ hc2 (r1.grow (g2.tr g3)) (r2.grow g3)).mono ?_; rintro e w4 ⟨rfl, g4⟩)
          | (go_at_call 37; refine (HSk.out a1 c1 _ (r1.grow (g2.tr (g3.tr g4))) (g1.tr (g2.tr (g3.tr g4)))).mono ?_; rintro e w5 ⟨rfl, g5⟩)
          | (go_at_call 38; refine (HTb.out a2 c2 _ (r2.grow (g3.tr (g4.tr g5))) (g1.tr (g2.tr (g3.tr (g4.tr g5))))).mono ?_; rintro e w6 ⟨rfl, g6⟩)
          | (go_at_call 39; refine (HSt.out _ (g1.tr (g2.tr (g3.tr (g4.tr (g5.tr g6)))))).mono ?_; rintro e w7 ⟨rfl, g7⟩))
      refine wp_abs (fun X => Gr w X ∧ SRow X x4 LL) ⟨g1.tr (g2.tr (g3.tr (g4.tr (g5.tr (g6.tr g7))))), r4.grow (g4.tr (g5.tr (g6.tr g7)))⟩ ?_
      clear r1 r2 r4 g1 g2 g3 g4 g5 g6 g7 HFa HLo HBx HSp HTb HSk HSt
      rintro X ⟨gX, r4⟩
      go_wp2
      go_loopw [15] (fun i wr => Hid (∃ k : Nat, k ≤ l.length ∧ i = .int .i64 k ∧ Gr X wr)) (fun i _ => l.length - (intOf i).toNat)
      case atStart => exact Lib.hid ⟨0, Nat.zero_le _, rfl, Below.refl _ _⟩
      case round =>
        obtain ⟨k, hk, rfl, gW⟩ := hrel.out
        clear hrel
        by_cases hlt : k < l.length
        · have hlm := spans_at hlt
          rw [HLL.out] at hlm
          have hld := HLd.out k
          obtain ⟨lo, hlo⟩ : ∃ z, sumLo (l.drop (k + 1)) = z := ⟨_, rfl⟩
          obtain ⟨hi', hhi⟩ : ∃ z, sumHi (l.drop (k + 1)) = z := ⟨_, rfl⟩
          rw [hlo, hhi] at hlm hld
          have HLk := Lib.hid hld
          clear hld
          obtain ⟨bs, os, rfl, _, c0, c1⟩ := SRow.get (r4.grow gW) hlm
          dsimp only at c0 c1
          have y0 := From.keep c0
          have y1 := From.keep c1
          clear hlm hlo hhi c0 c1
          go_upto_region 16 with fail
          refine wp_region_gr (by kernel_rfl) (by kernel_rfl) ?_
          repeat (go_big_quiet_step (first
            | (go_at_call 40; (with_reducible exact Calls.gr (HLk.out _ hlt (gX.tr (gW.tr (From.property _))))))))
          refine wpQuiet_nil ?_
          rintro _ ⟨u, rfl⟩
          clear y0 y1
          go_wp2
          go_roundw
          case rel => exact Lib.hid ⟨k + 1, by omega, by go_num, gW.tr u.property⟩
          case measure => simp [intOf]; omega
        · obtain rfl : k = l.length := by omega
          clear hlt hk
          have gZ := gX.tr gW
          go_wp2_with (first
            | (go_at_call 41; refine (HTh.out _ gZ).mono ?_; rintro e w8 ⟨rfl, g8⟩)
            | (go_at_call 16; refine (known_any _).mono ?_; rintro e w9 ⟨rfl, g9⟩))
          go_ret
          exact ⟨rfl, gZ.tr (g8.tr g9)⟩
  · rw [if_neg h1] at hS
    have hne : (R1 != 0) = true := by simpa using h1
    have HLo := Lib.hid (fun (a : Option Addr) (cp : Nat) (W' : World) (hr : LRow W' a l) => loads_err l R1 hR1 h1 a cp W' hr)
    have HFa := Lib.hid (fun (a c : Option Addr) (cp cc : Nat) (W' : World) (hcc : t.length ≤ cc) (hr : LRow W' a l) (ht : TRow W' c t) => fall_err l t days R1 hS h1 a c cp cc W' hr ht)
    clear hS hR1 hR2 h1
    go_enter Try.func6, Try.ntmps6
    go_wp2_with (first
        | (go_at_call 33; refine (HBx.out _ (Below.refl _ _)).mono ?_; rintro e w1 ⟨a1, c1, rfl, r1, hc1, g1⟩)
        | (go_at_call 34; refine (HSp.out _ g1).mono ?_; rintro e w2 ⟨a2, c2, rfl, r2, hc2, g2⟩)
        | (go_at_call 35; refine (HLo.out a1 c1 _ (r1.grow g2)).mono ?_; rintro e w3 ⟨rfl, g3⟩)
        | (go_at_call 36; refine (HFa.out a1 a2 c1 c2 _ hc2 (r1.grow (g2.tr g3)) (r2.grow g3)).mono ?_; rintro e w4 ⟨rfl, g4⟩)
        | (go_at_call 37; refine (HSk.out a1 c1 _ (r1.grow (g2.tr (g3.tr g4))) (g1.tr (g2.tr (g3.tr g4)))).mono ?_; rintro e w5 ⟨rfl, g5⟩)
        | (go_at_call 38; refine (HTb.out a2 c2 _ (r2.grow (g3.tr (g4.tr g5))) (g1.tr (g2.tr (g3.tr (g4.tr g5))))).mono ?_; rintro e w6 ⟨rfl, g6⟩)
        | (go_at_call 39; refine (HSt.out _ (g1.tr (g2.tr (g3.tr (g4.tr (g5.tr g6)))))).mono ?_; rintro e w7 ⟨rfl, g7⟩)
        | (go_at_call 16; refine (known_any _).mono ?_; rintro e w9 ⟨rfl, g9⟩))
    go_ret
    exact ⟨rfl, g1.tr (g2.tr (g3.tr (g4.tr (g5.tr (g6.tr (g7.tr g9))))))⟩

end Go.Proofs.Ytjdeojpapdphoaa
