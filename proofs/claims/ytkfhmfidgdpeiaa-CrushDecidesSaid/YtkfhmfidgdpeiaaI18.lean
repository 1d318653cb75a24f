/- crush.Fall; what a valid stack and table are. -/
import Derived.Test.YtkfhmfidgdpeiaaI5
import Derived.Test.YtkfhmfidgdpeiaaQk
namespace Go.Proofs.Ytkfhmfidgdpeiaa
set_option linter.unusedVariables false
set_option linter.unusedSimpArgs false
open Go.RowKit

theorem chain_parts : ∀ (l : List Stp) (d k : Int), chainL d k l = true → (∀ s ∈ l, d < s.day ∧ s.day ≤ 10000 ∧ 0 ≤ s.keep ∧ s.keep ≤ k) ∧ l.Pairwise (fun x y => x.day ≤ y.day) ∧ l.Pairwise (fun x y => y.keep ≤ x.keep)
  | [], _, _, _ => by simp
  | s :: l, d, k, h => by
    simp only [chainL, inB, in1, List.all_cons, List.all_nil, Bool.and_true, Bool.and_eq_true, decide_eq_true_eq] at h
    obtain ⟨⟨⟨h1, h2⟩, h3, h4⟩, h5⟩ := h
    obtain ⟨c1, c2, c3⟩ := chain_parts l s.day s.keep h5
    refine ⟨fun x hx => ?_, List.pairwise_cons.2 ⟨fun x hx => by have := c1 x hx; omega, c2⟩, List.pairwise_cons.2 ⟨fun x hx => by have := c1 x hx; omega, c3⟩⟩
    rcases List.mem_cons.1 hx with rfl | hx
    · omega
    · have := c1 x hx
      omega

theorem boxed_parts {most : Int} {l : List Ld} (h : boxedL most l = 0) : (l.length : Int) ≤ most ∧ ∀ x ∈ l, LdOk x ∧ x.sl ≤ x.sh ∧ x.wl ≤ x.wh ∧ x.sh ≤ 20000000 ∧ x.wh ≤ 100000 := by
  unfold boxedL at h
  split at h
  · omega
  rename_i h1
  split at h
  · omega
  rename_i h2
  have h3 : l.all okLd = true := by simpa using h2
  rw [List.all_eq_true] at h3
  refine ⟨by omega, fun x hx => ?_⟩
  have h4 := h3 x hx
  simp only [okLd, okSpan, inB, in1, List.all_cons, List.all_nil, Bool.and_true, Bool.and_eq_true, decide_eq_true_eq] at h4
  unfold LdOk LdB
  omega

structure TabOk (t : List Stp) (days : Int) : Prop where
  t1 : 1 ≤ t.length
  t10 : t.length ≤ 10
  keep : ∀ s ∈ t, 0 ≤ s.keep ∧ s.keep ≤ 1000
  day : t.Pairwise (fun x y => x.day ≤ y.day)
  down : t.Pairwise (fun x y => y.keep ≤ x.keep)
  head : ∀ s, t[0]? = some s → s.day = 0
  d0 : 0 ≤ days
  d1 : days ≤ 10000

theorem table_parts {t : List Stp} {days : Int} (h : tableL t = true) (hd : inB 0 10000 [days] = true) : TabOk t days := by
  unfold tableL at h
  simp only [inB, in1, List.all_cons, List.all_nil, Bool.and_true, Bool.and_eq_true, decide_eq_true_eq] at h hd
  obtain ⟨⟨⟨h1, h2⟩, h3⟩, h4⟩ := h
  obtain ⟨c1, c2, c3⟩ := chain_parts t _ _ h4
  refine ⟨by omega, by omega, fun s hs => by have := c1 s hs; omega, c2, c3, fun s hs => ?_, hd.1, hd.2⟩
  cases t with
  | nil => cases hs
  | cons x t =>
    simp at hs
    subst hs
    simpa using h3

theorem stored_parts {most : Int} {l : List Ld} {t : List Stp} {days : Int} (h : storedL most l t days = 0) : ((l.length : Int) ≤ most ∧ ∀ x ∈ l, LdOk x ∧ x.sl ≤ x.sh ∧ x.wl ≤ x.wh ∧ x.sh ≤ 20000000 ∧ x.wh ≤ 100000) ∧ TabOk t days := by
  unfold storedL at h
  split at h
  case isFalse h1 => exact absurd h h1
  rename_i h1
  split at h
  · omega
  rename_i h2
  split at h
  · omega
  rename_i h3
  exact ⟨boxed_parts h1, table_parts (by simpa using h2) (by simpa using h3)⟩

theorem until_len (t : List Stp) (days : Int) : (untilL t days).length ≤ t.length := (List.takeWhile_prefix _).length_le

theorem until_at {t : List Stp} {days : Int} {k : Nat} {s : Stp} (h : (untilL t days)[k]? = some s) : t[k]? = some s := by
  obtain ⟨u, hu⟩ := List.takeWhile_prefix (l := t) (fun s => decide (s.day ≤ days))
  have hk := (List.getElem?_eq_some_iff.1 h).1
  have e : (untilL t days ++ u)[k]? = some s := by rw [List.getElem?_append_left hk]; exact h
  have hu' : untilL t days ++ u = t := hu
  rwa [hu'] at e

theorem until_pos {t : List Stp} {days : Int} (h : TabOk t days) : 0 < (untilL t days).length := by
  cases t with
  | nil => have := h.t1; simp at this
  | cons x t =>
    have h0 := h.head x rfl
    have h1 := h.d0
    unfold untilL
    rw [List.takeWhile_cons, if_pos (by simp; omega)]
    simp

/-- The first step on which a stack is weak, and where. -/
def fallO (l : List Ld) (u : List Stp) : Option (Stp × Nat) := u.findSome? (fun s => (weakO l s.keep).map (fun k => (s, k)))

def fallV (l : List Ld) (t : List Stp) (days : Int) : Value := match fallO l (untilL t days) with
  | none => .tuple #[.int .i64 0, .int .i64 0, .int .i64 7]
  | some (s, k) => .tuple #[.int .i64 s.day, .int .i64 (k : Int), .int .i64 0]

theorem fallO_some {l : List Ld} : ∀ {u : List Stp} {k : Nat} {s : Stp} {m : Nat}, u[k]? = some s → weakO l s.keep = some m → (∀ j s', j < k → u[j]? = some s' → weakO l s'.keep = none) → fallO l u = some (s, m)
  | [], k, s, m, h, _, _ => by simp at h
  | x :: u, 0, s, m, h, hm, _ => by
    simp at h
    subst h
    simp [fallO, hm]
  | x :: u, k + 1, s, m, h, hm, hb => by
    have h0 := hb 0 x (by omega) rfl
    have ih := fallO_some (l := l) (u := u) (k := k) (s := s) (m := m) (by simpa using h) hm (fun j s' hj hs' => hb (j + 1) s' (by omega) (by simpa using hs'))
    unfold fallO at ih ⊢
    rw [List.findSome?_cons, h0]
    exact ih

theorem fallO_none {l : List Ld} {u : List Stp} (h : ∀ (j : Nat) (s' : Stp), u[j]? = some s' → weakO l s'.keep = none) : fallO l u = none := by
  unfold fallO
  rw [List.findSome?_eq_none_iff]
  intro s hs
  obtain ⟨j, hj⟩ := List.getElem?_of_mem hs
  rw [h j s hj]
  rfl

theorem weakV_none {l : List Ld} {keep : Int} (h : weakO l keep = none) : weakV l keep = .tuple #[.int .i64 0, .bool false] := by unfold weakV; rw [h]

theorem weakV_some {l : List Ld} {keep : Int} {k : Nat} (h : weakO l keep = some k) : weakV l keep = .tuple #[.int .i64 (k : Int), .bool true] := by unfold weakV; rw [h]

set_option maxRecDepth 100000 in
set_option maxHeartbeats 2000000 in
theorem fall_ok (l : List Ld) (t : List Stp) (days : Int) (hs : storedL 50 l t days = 0) (a c : Option Addr) (cap cc : Nat) (hcc : t.length ≤ cc) (w : World) (hr : LRow w a l) (ht : TRow w c t) :
    Calls Try.prog 36 #[.slice a l.length cap, .slice c t.length cc, .int .i64 days] w fun e w' => e = .returned (fallV l t days) ∧ Gr w w' := by
  obtain ⟨⟨l50, hl⟩, hT⟩ := stored_parts hs
  have t10 := hT.t10
  have HS := Lib.hid hs
  have HL := Lib.hid hl
  have HT := Lib.hid hT
  clear hs hl hT
  have cS : ∀ W, LRow W a l → TRow W c t → Calls Try.prog 75 #[.slice a l.length cap, .int .i64 50, .slice c t.length cc, .int .i64 days] W fun e w' => e = .returned (.int .i64 0) ∧ Gr W w' := fun W g1 g2 => by
    have h := stored_any 50 l t days a c cap cc W g1 g2
    rw [HS.out] at h
    exact h
  have CS := Lib.hid cS
  clear cS
  go_enter Try.func36, Try.ntmps36
  go_wp2_with (first
    | (go_at_call 75; refine (CS.out _ hr ht).mono ?_; rintro e w1 ⟨rfl, g1⟩)
    | (go_at_call 76; refine (until_any t days (by omega) HT.out.day c cc hcc _ (ht.grow g1)).mono ?_; rintro e w2 ⟨rfl, g2⟩))
  have gA := g1.tr g2
  have ul := until_len t days
  obtain ⟨u, hu⟩ : ∃ u, untilL t days = u := ⟨_, rfl⟩
  have HU := Lib.hid hu
  rw [hu] at ul ⊢
  clear hu g1 g2
  go_loopw [25] (fun i wr => Hid (∃ k : Nat, k ≤ u.length ∧ i = .int .i64 k ∧ Gr w wr ∧ ∀ j s, j < k → u[j]? = some s → weakO l s.keep = none)) (fun i wr => u.length - (intOf i).toNat)
  case atStart => exact Lib.hid ⟨0, Nat.zero_le _, rfl, gA, fun j s hj => by omega⟩
  case round =>
    clear gA
    obtain ⟨k, hk, rfl, gW, hb⟩ := hrel.out
    have HB := Lib.hid hb
    clear hrel hb
    by_cases hlt : k < u.length
    · obtain ⟨s, hs⟩ : ∃ s, u[k]? = some s := ⟨u[k], by simp [hlt]⟩
      have ht1 : t[k]? = some s := until_at (days := days) (by rw [HU.out]; exact hs)
      obtain ⟨b, off, rfl, hb, c0, c1⟩ := TRow.get (ht.grow gW) ht1
      obtain ⟨k0, k1⟩ := HT.out.keep s (List.mem_of_getElem? ht1)
      have bx := Box.new wr [.int .i64 s.day, .int .i64 s.keep] 136 wr.heap.size rfl
      have gU := Gr.al wr (.cells #[.int .i64 s.day, .int .i64 s.keep] 136)
      have HS1 := Lib.hid hs
      have hwk := weak_any l (by omega) (fun x hx => (HL.out x hx).1) s.keep k0 k1 a cap _ (hr.grow (gW.tr gU))
      cases hO : weakO l s.keep with
      | none =>
        rw [weakV_none hO] at hwk
        have HW := Lib.hid hwk
        have HO := Lib.hid hO
        clear hwk hO hs ht1
        go_wp2_with (go_at_call 77; refine HW.out.mono ?_; rintro e w3 ⟨rfl, g3⟩)
        go_roundw
        case rel =>
          refine Lib.hid ⟨k + 1, by omega, by go_num, gW.tr (gU.tr g3), fun j s' hj hs' => ?_⟩
          by_cases hjk : j = k
          · subst hjk
            rw [HS1.out] at hs'
            cases hs'
            exact HO.out
          · exact HB.out j s' (by omega) hs'
        case measure => simp [intOf]; omega
      | some m =>
        rw [weakV_some hO] at hwk
        have HW := Lib.hid hwk
        have E : fallV l t days = .tuple #[.int .i64 s.day, .int .i64 (m : Int), .int .i64 0] := by
          unfold fallV
          rw [HU.out, fallO_some hs hO HB.out]
        have HE := Lib.hid E
        clear hwk hO hs ht1 E
        go_wp2_with (go_at_call 77; refine HW.out.mono ?_; rintro e w3 ⟨rfl, g3⟩; obtain ⟨q0, q1⟩ := (bx.keep g3).c2)
        exact bodyPost_ret (v := .tuple #[.int .i64 s.day, .int .i64 (m : Int), .int .i64 0]) (by simp [results, Try.results36, go_sem]) rfl ⟨by rw [HE.out], gW.tr (gU.tr g3)⟩
    · obtain rfl : k = u.length := by omega
      have E : fallV l t days = .tuple #[.int .i64 0, .int .i64 0, .int .i64 7] := by
        unfold fallV
        rw [HU.out, fallO_none (fun j s hs => HB.out j s (List.getElem?_eq_some_iff.1 hs).1 hs)]
      have HE := Lib.hid E
      clear E
      go_wp2
      exact bodyPost_ret (v := .tuple #[.int .i64 0, .int .i64 0, .int .i64 7]) (by simp [results, Try.results36, go_sem]) rfl ⟨by rw [HE.out], gW⟩

end Go.Proofs.Ytkfhmfidgdpeiaa
