/- crush: what is known of a lot (state), Decide. slices.Repeat of one integer. slices.Repeat of an integer, however often. crush: how many tests more a lot needs. (Made by gen_i15.py.) crush.Need of what is valid. TopTestedBoard's numbers: lots that surely pass, surely fail. -/
import Derived.Test.YtkfhmfidgdpeiaaI11
import Derived.Test.YtkfhmfidgdpeiaaQk
import Derived.Test.YtkfhmfidgdpeiaaI6
namespace Go.Proofs.Ytkfhmfidgdpeiaa
set_option linter.unusedVariables false
set_option linter.unusedSimpArgs false
open Go.RowKit

/-- What is known of a lot: 1 it passes, 2 it fails, 3 it is open. -/
def stateL (te me low ba : Int) (l : List (Int × Int)) : Int := if passB false te me low ba l = true then 1 else if passB true te me low ba l = true then 3 else 2

set_option maxRecDepth 100000 in
set_option maxHeartbeats 4000000 in
theorem state_any (te : Nat) (me low ba off : Int) (rl ml : List Int) (ra ma : Option Addr) (rc mc : Nat) (t1 : te ≤ 1000) (m0 : 0 ≤ me) (m1 : me ≤ 100000) (o0 : 0 ≤ off) (o1 : off ≤ 1000) (a0 : 0 ≤ ba) (a1 : ba ≤ 1000) (hB : ∀ r ∈ rl ++ ml, 0 ≤ r ∧ r ≤ 100000) (hl : (rl ++ ml).length ≤ 100000) (w : World) (hr : IRow w ra rl) (hrn : ra = none → rc = 0) (hm : IRow w ma ml) (hmn : ma = none → mc = 0) :
    Calls Try.prog 62 #[.agg #[.int .i64 (te : Int), .int .i64 me, .int .i64 low, .int .i64 ba, .int .i64 off, .slice ra rl.length rc], .slice ma ml.length mc] w fun e w' => e = .returned (.int .i64 (stateL (te : Int) me low ba (truthsL te off (rl ++ ml)))) ∧ Gr w w' := by
  have gU := Gr.al w (.cells #[.int .i64 (te : Int), .int .i64 me, .int .i64 low, .int .i64 ba, .int .i64 off, .slice ra rl.length rc] 123)
  have oU := Own.new w [.int .i64 (te : Int), .int .i64 me, .int .i64 low, .int .i64 ba, .int .i64 off, .slice ra rl.length rc] 123 w.heap.size rfl
  obtain ⟨p1, h1⟩ : ∃ p1, passB false (te : Int) me low ba (truthsL te off (rl ++ ml)) = p1 := ⟨_, rfl⟩
  obtain ⟨p2, h2⟩ : ∃ p2, passB true (te : Int) me low ba (truthsL te off (rl ++ ml)) = p2 := ⟨_, rfl⟩
  have e : stateL (te : Int) me low ba (truthsL te off (rl ++ ml)) = if p1 = true then 1 else if p2 = true then 3 else 2 := by unfold stateL; rw [h1, h2]
  rw [e]
  have P1 : ∀ W, Gr w W → Calls Try.prog 90 #[.agg #[.int .i64 (te : Int), .int .i64 me, .int .i64 low, .int .i64 ba, .int .i64 off, .slice ra rl.length rc], .func (.func 91) #[] #[], .slice ma ml.length mc] W fun e w' => e = .returned (.bool p1) ∧ Gr W w' := fun W g => by
    have h := passes_lo te me low ba off rl ml ra ma rc mc t1 m0 m1 o0 o1 a0 a1 hB hl W (hr.grow g) hrn (hm.grow g) hmn
    rw [h1] at h
    exact h
  have P2 : ∀ W, Gr w W → Calls Try.prog 90 #[.agg #[.int .i64 (te : Int), .int .i64 me, .int .i64 low, .int .i64 ba, .int .i64 off, .slice ra rl.length rc], .func (.func 92) #[] #[], .slice ma ml.length mc] W fun e w' => e = .returned (.bool p2) ∧ Gr W w' := fun W g => by
    have h := passes_hi te me low ba off rl ml ra ma rc mc t1 m0 m1 o0 o1 a0 a1 hB hl W (hr.grow g) hrn (hm.grow g) hmn
    rw [h2] at h
    exact h
  have HP1 := Lib.hid P1
  have HP2 := Lib.hid P2
  have q0 := oU.1.2 0 _ rfl
  have q1 := oU.1.2 1 _ rfl
  have q2 := oU.1.2 2 _ rfl
  have q3 := oU.1.2 3 _ rfl
  have q4 := oU.1.2 4 _ rfl
  have q5 := oU.1.2 5 _ rfl
  have OU := Lib.hid oU
  have GU := Lib.hid gU
  clear P1 P2 e h1 h2 oU gU
  cases p1 with
  | true =>
    go_enter Try.func62, Try.ntmps62
    go_wp2_with (go_at_call 90; refine (HP1.out _ GU.out).mono ?_; rintro e w1 ⟨rfl, g1⟩)
    go_ret
    exact ⟨rfl, GU.out.tr g1⟩
  | false =>
    go_enter Try.func62, Try.ntmps62
    go_wp2_with fail
    refine (HP1.out _ GU.out).mono ?_
    rintro e w1 ⟨rfl, g1⟩
    clear q0 q1 q2 q3 q4 q5
    have o1' := OU.out.keep g1
    have q0 := o1'.1.2 0 _ rfl
    have q1 := o1'.1.2 1 _ rfl
    have q2 := o1'.1.2 2 _ rfl
    have q3 := o1'.1.2 3 _ rfl
    have q4 := o1'.1.2 4 _ rfl
    have q5 := o1'.1.2 5 _ rfl
    have G1 := Lib.hid (GU.out.tr g1)
    clear o1' g1
    go_wp2_with fail
    refine (HP2.out _ G1.out).mono ?_
    rintro e w2 ⟨rfl, g2⟩
    have G2 := Lib.hid (G1.out.tr g2)
    clear g2 q0 q1 q2 q3 q4 q5
    cases p2
    all_goals
      go_wp2
      go_ret
      exact ⟨rfl, G2.out⟩

theorem rule_parts {te me lo ba off : Int} {l : List Int} (h : ruleL te me lo ba off l = 0) : (1 ≤ te ∧ te ≤ 20) ∧ (0 ≤ me ∧ me ≤ 100000) ∧ (0 ≤ ba ∧ ba ≤ te) ∧ (0 ≤ off ∧ off ≤ 1000) ∧ (l.length : Int) ≤ te ∧ ∀ r ∈ l, 0 ≤ r ∧ r ≤ 100000 := by
  unfold ruleL at h
  split at h
  · omega
  rename_i h1
  split at h
  · omega
  rename_i h2
  split at h
  · omega
  rename_i h3
  split at h
  · omega
  rename_i h4
  simp only [Bool.not_eq_false] at h1 h2 h4
  simp only [ruleOk, inB, in1, List.all_cons, List.all_nil, Bool.and_true, Bool.and_eq_true, decide_eq_true_eq] at h1 h2
  refine ⟨by omega, by omega, by omega, by omega, by omega, fun r hr => ?_⟩
  simp only [inB, in1, List.all_eq_true, Bool.and_eq_true, decide_eq_true_eq] at h4
  have := h4 r hr
  omega

set_option maxRecDepth 100000 in
set_option maxHeartbeats 2000000 in
theorem decide_ok (te me lo ba off : Int) (l : List Int) (h : ruleL te me lo ba off l = 0) (a : Option Addr) (cap : Nat) (w : World) (hr : IRow w a l) (hn : a = none → cap = 0) :
    Calls Try.prog 19 #[.agg #[.int .i64 te, .int .i64 me, .int .i64 lo, .int .i64 ba], .slice a l.length cap, .int .i64 off] w fun e w' => e = .returned (.tuple #[.int .i64 (stateL te me lo ba (truthsL te.toNat off l)), .int .i64 0]) ∧ Gr w w' := by
  obtain ⟨⟨x0, x1⟩, ⟨x2, x3⟩, ⟨x4, x5⟩, ⟨x6, x7⟩, x8, x9⟩ := rule_parts h
  obtain ⟨n, rfl⟩ : ∃ n : Nat, te = (n : Int) := ⟨te.toNat, by omega⟩
  rw [Int.toNat_natCast]
  have oU := Own.new w [.int .i64 (n : Int), .int .i64 me, .int .i64 lo, .int .i64 ba] 23 w.heap.size rfl
  have gU := Gr.al w (.cells #[.int .i64 (n : Int), .int .i64 me, .int .i64 lo, .int .i64 ba] 23)
  have hR : ∀ W, Gr w W → Calls Try.prog 18 #[.agg #[.int .i64 (n : Int), .int .i64 me, .int .i64 lo, .int .i64 ba], .slice a l.length cap, .int .i64 off] W fun e w' => e = .returned (.int .i64 0) ∧ Gr W w' := fun W g => by
    have := rule_any (n : Int) me lo ba off l a cap W (hr.grow g)
    rw [h] at this
    exact this
  have hS : ∀ W, Gr w W → Calls Try.prog 62 #[.agg #[.int .i64 (n : Int), .int .i64 me, .int .i64 lo, .int .i64 ba, .int .i64 off, .slice a l.length cap], .slice none 0 0] W fun e w' => e = .returned (.int .i64 (stateL (n : Int) me lo ba (truthsL n off l))) ∧ Gr W w' := fun W g => by
    have := state_any n me lo ba off l [] a none cap 0 (by omega) (by omega) (by omega) (by omega) (by omega) (by omega) (by omega) (by rw [List.append_nil]; exact x9) (by rw [List.append_nil]; omega) W (hr.grow g) hn RowOf.nil (fun _ => rfl)
    rw [List.append_nil] at this
    exact this
  have HR := Lib.hid hR
  have HS := Lib.hid hS
  obtain ⟨q0, q1, q2, q3⟩ := oU.1.c4'
  have OU := Lib.hid oU
  have GU := Lib.hid gU
  clear hR hS oU gU h
  go_enter Try.func19, Try.ntmps19
  go_wp2_with fail
  refine (HR.out _ GU.out).mono ?_
  rintro e w1 ⟨rfl, g1⟩
  obtain ⟨q0, q1, q2, q3⟩ := (OU.out.keep g1).1.c4'
  have G1 := Lib.hid (GU.out.tr g1)
  clear g1
  go_wp2_with fail
  refine (HS.out _ G1.out).mono ?_
  rintro e w2 ⟨rfl, g2⟩
  have G2 := Lib.hid (G1.out.tr g2)
  clear g2
  go_wp2
  go_ret2
  exact ⟨rfl, G2.out⟩

end Go.Proofs.Ytkfhmfidgdpeiaa

namespace Go.Proofs.Ytkfhmfidgdpeiaa
set_option linter.unusedVariables false
set_option linter.unusedSimpArgs false
open Go.RowKit

def repi (n : Nat) (x : Int) : List Value := (List.replicate n x).flatMap encI

theorem repi_len (n : Nat) (x : Int) : (repi n x).length = 1 * n := by
  induction n with
  | zero => rfl
  | succ n ih => simp [repi, List.replicate_succ, encI] at ih ⊢ <;> try omega

theorem repi_add (n m : Nat) (x : Int) : repi (n + m) x = repi n x ++ repi m x := by
  unfold repi
  rw [← List.replicate_append_replicate, List.flatMap_append]

theorem repi_one (n : Nat) (x : Int) : ∀ v ∈ repi n x, v.oneCell' = true := by
  intro v hv
  obtain ⟨y, hy, hv⟩ := List.mem_flatMap.1 hv
  have hv' : v ∈ [Value.int .i64 y] := hv
  rw [List.mem_singleton.1 hv']
  rfl

theorem repi_at {k j i : Nat} {x : Int} (hj : j < k) (hi : i < 1) : (repi k x)[j * 1 + i]? = (encI x)[i]? := by
  have e : repi k x = repi j x ++ (repi 1 x ++ repi (k - j - 1) x) := by rw [← repi_add, ← repi_add]; congr 1; omega
  have e1 : repi 1 x = encI x := by simp [repi]
  rw [e, List.getElem?_append_right (by rw [repi_len]; omega), repi_len, show j * 1 + i - 1 * j = i by omega, List.getElem?_append_left (by rw [repi_len]; omega), e1]

theorem infoI1 : (Try.prog.info? 3).map (·.size) = some 1 := by kernel_rfl

set_option maxRecDepth 100000 in
set_option maxHeartbeats 2000000 in
theorem repeat_int (x : Int) (c : Nat) (h1 : 1 ≤ c) (h2 : c ≤ 1000) (a : Option Addr) (cap : Nat) (w : World) (hr : IRow w a [x]) :
    Calls Try.prog 93 #[.slice a 1 cap, .int .i64 (c : Int)] w fun e w' => ∃ a', e = .returned (.slice a' c c) ∧ IRow w' a' (List.replicate c x) ∧ Gr w w' := by
  obtain ⟨i0, hi, hz⟩ := Option.map_eq_some_iff.1 infoInt'
  simp only [Prod.mk.injEq] at hz
  obtain ⟨hz0, hz1, hz2⟩ := hz
  have hmk := run_make (P := Try.prog) w 24 3 i0 _ Try.underlying24 hi hz0 .i64 .i64 (c : Int) (c : Int) (by omega) (Int.le_refl _) (by rw [hz2]; omega) (by omega)
  rw [hz1] at hmk
  simp only [Int.toNat_natCast, Nat.mul_one] at hmk
  have d0 : decide ((c : Int) < 0) = false := by simp
  have d1 : decide ((9223372036854775807 : Int) < (c : Int)) = false := by simp; omega
  have v0 : IntKind.u64.wrap (c : Int) = (c : Int) := by rw [IntKind.wrap_u64]; omega
  have v1 : IntKind.i64.wrap (c : Int) = (c : Int) := IntWalk.i64_in _ (by omega)
  go_enter Try.func93, Try.ntmps93
  obtain ⟨b, off, rfl, hb, _⟩ := hr.2 0 x rfl
  have hnew : (w.alloc (.cells (madeCells #[.int .i64 0] c) 3)).heap[w.heap.size]? = some (.cells (madeCells #[.int .i64 0] c) 3) := World.alloc_heap_new w _
  have hr1 := hr.grow (Gr.al w (.cells (madeCells #[.int .i64 0] c) 3))
  have hsrc : ∀ j v, (repi 1 x)[j]? = some v → (w.alloc (.cells (madeCells #[.int .i64 0] c) 3)).cell? ((Addr.mk b off none).add j) = some v := by
    intro j v hv
    obtain ⟨b', off', e', _, hc⟩ := hr1.2 0 x rfl
    injection e' with e'
    injection e' with e1 e2 _
    subst e1; subst e2
    have h := hc j v (by simpa [repi] using hv)
    rw [WideShapes.add_plain]
    simpa using h
  have hcp := run_copy_wide (P := Try.prog) _ 24 24 3 3 w.heap.size 0 c c ⟨b, off, none⟩ 1 cap 1 1 _ 3 (repi 1 x) Try.underlying24 infoI1 hnew (Nat.min_eq_left h1) (by rw [repi_len]) hsrc (by rw [repi_len, size_madeCells]; omega) (repi_one 1 x)
  rw [World.setRow_alloc_new, show goInt ((1 : Nat) : Int) = .int .i64 1 from rfl] at hcp
  obtain ⟨rest, hrest⟩ : ∃ rest : List Value, (madeCells #[Value.int .i64 0] c).toList.drop (0 + (repi 1 x).length) = rest := ⟨_, rfl⟩
  have hlen : rest.length = 1 * (c - 1) := by rw [← hrest, repi_len, List.length_drop, Array.length_toList, size_madeCells]; omega
  rw [hrest, List.take_zero, List.nil_append] at hcp
  have Hlen := Lib.hid hlen
  clear hnew hr1 hsrc hrest hlen hr
  go_wp2_with (go_at_call 104; refine (mul_one64 c h2 _).mono ?_; rintro e w1 ⟨rfl, rfl⟩)
  clear hmk hcp d0 d1
  go_loopw [8] (fun n wr => Hid (∃ k : Nat, ∃ rest : List Value, n = .int .i64 k ∧ 1 ≤ k ∧ k ≤ c ∧ Gr w1 wr ∧ wr.heap[w1.heap.size]? = some (.cells (repi k x ++ rest).toArray 3) ∧ rest.length = 1 * (c - k))) (fun n _ => c - (intOf n).toNat)
  case atStart => exact Lib.hid ⟨1, rest, rfl, Nat.le_refl _, h1, Gr.al _ _, World.alloc_heap_new _ _, Hlen.out⟩
  case round =>
    obtain ⟨k, rest, rfl, hk1, hkc, gw, hB, hl⟩ := hrel.out
    clear hrel
    by_cases hlt : k < c
    · obtain ⟨m, hm⟩ : ∃ m, Nat.min k (c - k) = m := ⟨_, rfl⟩
      have hm' : min k (c - k) = m := hm
      have m1 : 1 ≤ m := by omega
      have m2 : k + m ≤ c := by omega
      have hmk' : m ≤ k := by omega
      have hBd : wr.drew.heap[w1.heap.size]? = some (.cells (repi k x ++ rest).toArray 3) := hB
      have hsrc : ∀ j v, (repi m x)[j]? = some v → wr.drew.cell? ((Addr.mk w1.heap.size 0 none).add j) = some v := by
        intro j v hv
        have hj : j < 1 * m := by
          have := (List.getElem?_eq_some_iff.1 hv).1
          rwa [repi_len] at this
        have hc : wr.drew.cell? ⟨w1.heap.size, 0 + j, none⟩ = (repi k x ++ rest)[0 + j]? := by
          unfold World.cell?
          rw [hBd]
          simp
        have ek : repi k x = repi m x ++ repi (k - m) x := by rw [← repi_add]; congr 1; omega
        rw [WideShapes.add_plain, hc, Nat.zero_add, ek, List.append_assoc, List.getElem?_append_left (by rw [repi_len]; exact hj)]
        exact hv
      have hcp := run_copy_wide (P := Try.prog) wr.drew 24 24 3 3 w1.heap.size (k * 1) (c - k) (c - k) ⟨w1.heap.size, 0, none⟩ k c m 1 _ 3 (repi m x) Try.underlying24 infoI1 hBd hm (by rw [repi_len]; omega) hsrc (by simp [repi_len]; omega) (repi_one m x)
      rw [show goInt ((m : Nat) : Int) = .int .i64 (m : Int) from rfl] at hcp
      obtain ⟨row, hrow⟩ : ∃ row, (((repi k x ++ rest).toArray.toList.take (k * 1) ++ repi m x ++ (repi k x ++ rest).toArray.toList.drop (k * 1 + (repi m x).length)).toArray) = row := ⟨_, rfl⟩
      rw [hrow, Nat.mul_one] at hcp
      have e1 : row = (repi (k + m) x ++ rest.drop (1 * m)).toArray := by
        rw [← hrow]
        congr 1
        show (repi k x ++ rest).take (k * 1) ++ repi m x ++ (repi k x ++ rest).drop (k * 1 + (repi m x).length) = _
        rw [repi_len, List.take_append_of_le_length (by rw [repi_len]; omega), List.take_of_length_le (by rw [repi_len]; omega), List.drop_append, repi_len, List.drop_of_length_le (by rw [repi_len]; omega), List.nil_append, repi_add, show k * 1 + 1 * m - 1 * k = 1 * m by omega]
      have hB' : (wr.drew.setRow w1.heap.size row).heap[w1.heap.size]? = some (.cells (repi (k + m) x ++ rest.drop (1 * m)).toArray 3) := by
        rw [← e1]
        exact setRow_heap _ _ _ _ _ _ hBd
      have g' : Gr w1 (wr.drew.setRow w1.heap.size row) := below_setRow (gw.tr (Gr.dr wr)) (Nat.le_refl _) _
      have l' : (rest.drop (1 * m)).length = 1 * (c - (k + m)) := by rw [List.length_drop, hl]; omega
      have v2 : IntKind.i64.wrap ((k : Int) + (m : Int)) = ((k + m : Nat) : Int) := by rw [IntWalk.i64_in _ (by omega)]; omega
      have HN := Lib.hid (And.intro hB' (And.intro g' l'))
      clear hB' g' l' e1 hrow hsrc hBd hB gw hl hm hm'
      go_wp2
      have hmx : Try.prog.follows .mixedOrders = true := by kernel_rfl
      go_region
      go_wp2
      go_roundw
      case rel => exact Lib.hid ⟨k + m, rest.drop (1 * m), by go_num, by omega, m2, HN.out.2.1, HN.out.1, HN.out.2.2⟩
      case measure => simp [intOf]; omega
    · obtain rfl : k = c := by omega
      go_wp2
      go_ret
      refine ⟨_, rfl, ⟨by simp; omega, fun j y hy => ?_⟩, gw⟩
      obtain ⟨hj, e⟩ := List.getElem?_eq_some_iff.1 hy
      have hj' : j < k := by simpa using hj
      have ey : x = y := by simpa using e
      subst ey
      refine ⟨_, _, rfl, (Array.getElem?_eq_some_iff.1 hB).1, fun i v hv => ?_⟩
      have hr0 : rest = [] := List.eq_nil_of_length_eq_zero (by omega)
      have hi4 : i < 1 := by
        have := (List.getElem?_eq_some_iff.1 hv).1
        simpa [encI] using this
      have hc : wr.cell? ⟨w1.heap.size, j * 1 + i, none⟩ = (repi k x)[j * 1 + i]? := by
        unfold World.cell?
        rw [hB, hr0, List.append_nil]
        simp
      rw [Nat.zero_add, hc, repi_at hj' hi4]
      exact hv

end Go.Proofs.Ytkfhmfidgdpeiaa

namespace Go.Proofs.Ytkfhmfidgdpeiaa
set_option linter.unusedVariables false
set_option linter.unusedSimpArgs false
open Go.RowKit

theorem mul_one64z (w : World) :
    Calls Try.prog 104 #[.int .u64 1, .int .u64 0] w fun e w' => e = .returned (.tuple #[.int .u64 0, .int .u64 0]) ∧ w' = w := mul_one64 0 (by omega) w

set_option maxRecDepth 100000 in
set_option maxHeartbeats 2000000 in
theorem repeat_int0 (x : Int) (a : Option Addr) (cap : Nat) (w : World) (hr : IRow w a [x]) :
    Calls Try.prog 93 #[.slice a 1 cap, .int .i64 0] w fun e w' => ∃ a', e = .returned (.slice a' 0 0) ∧ (∃ b, a' = some b) ∧ Gr w w' := by
  obtain ⟨i0, hi, hz⟩ := Option.map_eq_some_iff.1 infoInt'
  simp only [Prod.mk.injEq] at hz
  obtain ⟨hz0, hz1, hz2⟩ := hz
  have hmk := run_make (P := Try.prog) w 24 3 i0 _ Try.underlying24 hi hz0 .i64 .i64 0 0 (by omega) (Int.le_refl _) (by omega) (by omega)
  rw [show madeCells (Value.int .i64 0).cells ((0 : Int).toNat * i0.size) = #[] by simp [madeCells]] at hmk
  obtain ⟨b, off, rfl, hb, _⟩ := hr.2 0 x rfl
  have hnew : (w.alloc (.cells #[] 3)).heap[w.heap.size]? = some (.cells #[] 3) := World.alloc_heap_new w _
  have hcp := run_copy_wide (P := Try.prog) _ 24 24 3 3 w.heap.size 0 0 0 ⟨b, off, none⟩ 1 cap 0 1 _ 3 [] Try.underlying24 infoI1 hnew rfl rfl (fun j v h => by simp at h) (by simp) (fun v h => by cases h)
  rw [World.setRow_alloc_new, show goInt ((0 : Nat) : Int) = .int .i64 0 from rfl] at hcp
  clear hnew hr
  go_enter Try.func93, Try.ntmps93
  go_wp2_with (go_at_call 104; refine (mul_one64z _).mono ?_; rintro e w1 ⟨rfl, rfl⟩)
  clear hmk hcp
  go_loopw [8] (fun n wr => Hid (n = .int .i64 0 ∧ Gr w1 wr)) (fun n _ => 0)
  case atStart => exact Lib.hid ⟨rfl, Gr.al _ _⟩
  case round =>
    obtain ⟨rfl, gw⟩ := hrel.out
    clear hrel
    go_wp2
    go_ret
    exact ⟨_, rfl, ⟨_, rfl⟩, gw⟩

/-- However often. -/
theorem repeat_any (x : Int) (c : Nat) (h2 : c ≤ 1000) (a : Option Addr) (cap : Nat) (w : World) (hr : IRow w a [x]) :
    Calls Try.prog 93 #[.slice a 1 cap, .int .i64 (c : Int)] w fun e w' => ∃ a', e = .returned (.slice a' (List.replicate c x).length c) ∧ IRow w' a' (List.replicate c x) ∧ (a' = none → c = 0) ∧ Gr w w' := by
  by_cases h : c = 0
  · subst h
    refine (repeat_int0 x a cap w hr).mono ?_
    rintro e w' ⟨a', rfl, _, g⟩
    exact ⟨a', rfl, RowOf.nil, fun _ => rfl, g⟩
  · refine (repeat_int x c (by omega) h2 a cap w hr).mono ?_
    rintro e w' ⟨a', rfl, hr', g⟩
    refine ⟨a', by simp, hr', fun e => ?_, g⟩
    subst e
    have := irow_nil hr'
    simpa using this

end Go.Proofs.Ytkfhmfidgdpeiaa

namespace Go.Proofs.Ytkfhmfidgdpeiaa
set_option linter.unusedVariables false
set_option linter.unusedSimpArgs false
open Go.RowKit

theorem irow_one (v : World) (n : Int) : IRow (v.alloc (.cells (List.toArray [.int .i64 n]) 3)) (some ⟨v.heap.size, 0, none⟩) [n] := by
  have bx := Box.new v [.int .i64 n] 3 v.heap.size rfl
  refine ⟨by simp, fun j y hy => ⟨v.heap.size, 0, rfl, bx.1, fun i u hu => ?_⟩⟩
  have hj : j = 0 := by
    have := (List.getElem?_eq_some_iff.1 hy).1
    simpa using this
  have hi : i = 0 := by
    have := (List.getElem?_eq_some_iff.1 hu).1
    simpa [encI] using this
  subst hj
  subst hi
  simp at hy
  subst hy
  simp [encI] at hu
  subst hu
  exact bx.2 0 _ rfl

theorem repeat_any' (x : Int) (c : Nat) (h2 : c ≤ 1000) (a : Option Addr) (cap : Nat) (w : World) (hr : IRow w a [x]) :
    Calls Try.prog 93 #[.slice a 1 cap, .int .i64 (c : Int)] w fun e w' => ∃ a', e = .returned (.slice a' c c) ∧ IRow w' a' (List.replicate c x) ∧ (a' = none → c = 0) ∧ Gr w w' := by
  refine (repeat_any x c h2 a cap w hr).mono ?_
  rintro e w' ⟨a', rfl, h⟩
  exact ⟨a', by rw [List.length_replicate], h⟩

def stAt (te : Nat) (me low ba off : Int) (rl : List Int) (rd : Int) (k : Nat) : Int := stateL (te : Int) me low ba (truthsL te off (rl ++ List.replicate k rd))

def needL (te : Nat) (me low ba off : Int) (rl : List Int) (st rd : Int) : Int := match (List.range (te + 1 - rl.length)).find? (fun k => decide (stAt te me low ba off rl rd k = st)) with
  | some k => (k : Int)
  | none => -1

set_option maxRecDepth 100000 in
set_option maxHeartbeats 4000000 in
theorem need_any (te : Nat) (me low ba off : Int) (rl : List Int) (ra : Option Addr) (rc : Nat) (st rd : Int) (t1 : te ≤ 1000) (m0 : 0 ≤ me) (m1 : me ≤ 100000) (o0 : 0 ≤ off) (o1 : off ≤ 1000) (a0 : 0 ≤ ba) (a1 : ba ≤ 1000) (hB : ∀ r ∈ rl, 0 ≤ r ∧ r ≤ 100000) (hl : rl.length ≤ te) (r0 : 0 ≤ rd) (r1 : rd ≤ 100000) (w : World) (hr : IRow w ra rl) (hrn : ra = none → rc = 0) :
    Calls Try.prog 63 #[.agg #[.int .i64 (te : Int), .int .i64 me, .int .i64 low, .int .i64 ba, .int .i64 off, .slice ra rl.length rc], .int .i64 st, .int .i64 rd] w fun e w' => e = .returned (.int .i64 (needL te me low ba off rl st rd)) ∧ Gr w w' := by
  have gU := Gr.al w (.cells #[.int .i64 (te : Int), .int .i64 me, .int .i64 low, .int .i64 ba, .int .i64 off, .slice ra rl.length rc] 123)
  have oU := Own.new w [.int .i64 (te : Int), .int .i64 me, .int .i64 low, .int .i64 ba, .int .i64 off, .slice ra rl.length rc] 123 w.heap.size rfl
  obtain ⟨M, hM⟩ : ∃ M : Nat, te + 1 - rl.length = M := ⟨_, rfl⟩
  have v0 : IntKind.i64.wrap ((te : Int) - (rl.length : Int)) = (te : Int) - (rl.length : Int) := IntWalk.i64_in _ (by omega)
  have v1 : IntKind.i64.wrap ((te : Int) - (rl.length : Int) + 1) = (M : Int) := by rw [IntWalk.i64_in _ (by omega)]; omega
  have q0 := oU.1.2 0 _ rfl
  have q5 := oU.1.2 5 _ rfl
  have OU := Lib.hid oU
  have GU := Lib.hid gU
  have HR := Lib.hid hr
  have HB := Lib.hid hB
  clear oU gU hr hB
  go_enter Try.func63, Try.ntmps63
  go_wp2
  clear q0 q5 v0 v1
  go_loopw [16] (fun i wr => Hid (∃ k : Nat, k ≤ M ∧ i = .int .i64 k ∧ (∀ j, j < k → stAt te me low ba off rl rd j ≠ st) ∧ Gr (w.alloc (.cells #[.int .i64 (te : Int), .int .i64 me, .int .i64 low, .int .i64 ba, .int .i64 off, .slice ra rl.length rc] 123)) wr)) (fun i _ => M - (intOf i).toNat)
  case atStart => exact Lib.hid ⟨0, Nat.zero_le _, rfl, fun j hj => by omega, Below.refl _ _⟩
  case round =>
    obtain ⟨k, hk, rfl, hno, gw⟩ := hrel.out
    clear hrel
    have HNO := Lib.hid hno
    clear hno
    by_cases hlt : k < M
    · have hO := OU.out.keep gw
      have hrr := HR.out.grow (GU.out.tr gw)
      have HO := Lib.hid hO
      have HRR := Lib.hid hrr
      have GW := Lib.hid gw
      obtain ⟨sk, hsk⟩ : ∃ sk, stAt te me low ba off rl rd k = sk := ⟨_, rfl⟩
      have hbd : ∀ r ∈ rl ++ List.replicate k rd, 0 ≤ r ∧ r ≤ 100000 := fun r h => by
        rcases List.mem_append.1 h with h | h
        · exact HB.out r h
        · rw [(List.mem_replicate.1 h).2]; exact ⟨r0, r1⟩
      have hlen : (rl ++ List.replicate k rd).length ≤ 100000 := by simp; omega
      clear hO hrr gw
      go_upto_region 4 with fail
      refine wp_region_facts 7 [(2, 1), (4, 2), (4, 3), (5, 0), (5, 4)] (fun x => ⟨#[.agg #[.int .i64 (te : Int), .int .i64 me, .int .i64 low, .int .i64 ba, .int .i64 off, .slice ra rl.length rc], .int .i64 st, .int .i64 rd, .pointer (some ⟨w.heap.size, 0, none⟩), undef, undef, u6, .int .i64 (k : Int), .pointer (some ⟨w.heap.size, 0, none⟩), .pointer (some ⟨w.heap.size, 0, none⟩), .int .i64 (te : Int), .pointer (some ⟨w.heap.size, 5, none⟩), .slice ra rl.length rc, .int .i64 (rl.length : Int), .int .i64 ((te : Int) - (rl.length : Int)), .int .i64 (M : Int), .int .i64 (k : Int), .bool true, .int .i64 (k : Int), x 0, x 1, x 2, x 3, x 4, x 5, x 6, u26, u27, u28], []⟩) (fun i => [u19, u20, u21, u22, u23, u24, u25].getD i undef) [fun _ x => x = .agg #[.int .i64 (te : Int), .int .i64 me, .int .i64 low, .int .i64 ba, .int .i64 off, .slice ra rl.length rc], fun _ x => x = .int .i64 rd, fun v x => ∃ b, x = .slice (some ⟨b, 0, none⟩) 1 1 ∧ IRow v (some ⟨b, 0, none⟩) [rd], fun _ x => x = .int .i64 (k : Int), fun v x => ∃ a, x = .slice a k k ∧ IRow v a (List.replicate k rd) ∧ (a = none → k = 0), fun _ x => x = .int .i64 sk, fun _ x => x = .int .i64 st] (by rfl) (by kernel_rfl) (by kernel_rfl) (by kernel_rfl) (stays_cons (Stays.eq _) (stays_cons (Stays.eq _) (stays_cons ((show Stays (fun v x => ∃ b, x = .slice (some ⟨b, 0, none⟩) 1 1 ∧ IRow v (some ⟨b, 0, none⟩) [rd]) from fun v v' x g ⟨b, h, r⟩ => ⟨b, h, r.grow g⟩)) (stays_cons (Stays.eq _) (stays_cons ((show Stays (fun v x => ∃ a, x = .slice a k k ∧ IRow v a (List.replicate k rd) ∧ (a = none → k = 0)) from fun v v' x g ⟨a, h, r, n⟩ => ⟨a, h, r.grow g, n⟩)) (stays_cons (Stays.eq _) (stays_cons (Stays.eq _) stays_nil))))))) ?step4 ?fin4
      case step4 =>
        rintro i hi x v gv hd K hK
        have hi8 : i = 0 ∨ i = 1 ∨ i = 2 ∨ i = 3 ∨ i = 4 ∨ i = 5 ∨ i = 6 := by omega
        rcases hi8 with rfl | rfl | rfl | rfl | rfl | rfl | rfl
        · show wpOp Try.prog _ _ 0 K (⟨#[.agg #[.int .i64 (te : Int), .int .i64 me, .int .i64 low, .int .i64 ba, .int .i64 off, .slice ra rl.length rc], .int .i64 st, .int .i64 rd, .pointer (some ⟨w.heap.size, 0, none⟩), undef, undef, u6, .int .i64 (k : Int), .pointer (some ⟨w.heap.size, 0, none⟩), .pointer (some ⟨w.heap.size, 0, none⟩), .int .i64 (te : Int), .pointer (some ⟨w.heap.size, 5, none⟩), .slice ra rl.length rc, .int .i64 (rl.length : Int), .int .i64 ((te : Int) - (rl.length : Int)), .int .i64 (M : Int), .int .i64 (k : Int), .bool true, .int .i64 (k : Int), x 0, x 1, x 2, x 3, x 4, x 5, x 6, u26, u27, u28], []⟩ : Act) v
          refine wpOp_step rfl (fun K' hK' => ?_)
          have p0 := ((HO.out.keep gv).1.2 0 _ rfl)
          have p1 := ((HO.out.keep gv).1.2 1 _ rfl)
          have p2 := ((HO.out.keep gv).1.2 2 _ rfl)
          have p3 := ((HO.out.keep gv).1.2 3 _ rfl)
          have p4 := ((HO.out.keep gv).1.2 4 _ rfl)
          have p5 := ((HO.out.keep gv).1.2 5 _ rfl)
          go_simp
          exact hK' _ _ (hK _ _ (Below.refl _ _) (at_of rfl (rfl)))
        · show wpOp Try.prog _ _ 1 K (⟨#[.agg #[.int .i64 (te : Int), .int .i64 me, .int .i64 low, .int .i64 ba, .int .i64 off, .slice ra rl.length rc], .int .i64 st, .int .i64 rd, .pointer (some ⟨w.heap.size, 0, none⟩), undef, undef, u6, .int .i64 (k : Int), .pointer (some ⟨w.heap.size, 0, none⟩), .pointer (some ⟨w.heap.size, 0, none⟩), .int .i64 (te : Int), .pointer (some ⟨w.heap.size, 5, none⟩), .slice ra rl.length rc, .int .i64 (rl.length : Int), .int .i64 ((te : Int) - (rl.length : Int)), .int .i64 (M : Int), .int .i64 (k : Int), .bool true, .int .i64 (k : Int), x 0, x 1, x 2, x 3, x 4, x 5, x 6, u26, u27, u28], []⟩ : Act) v
          refine wpOp_step rfl (fun K' hK' => ?_)
          go_simp
          exact hK' _ _ (hK _ _ (Below.refl _ _) (at_of rfl (rfl)))
        · obtain ⟨x, rfl⟩ := upd_of (show x 1 = .int .i64 rd from hd 1 _ (by simp) rfl)
          show wpOp Try.prog _ _ 2 K (⟨#[.agg #[.int .i64 (te : Int), .int .i64 me, .int .i64 low, .int .i64 ba, .int .i64 off, .slice ra rl.length rc], .int .i64 st, .int .i64 rd, .pointer (some ⟨w.heap.size, 0, none⟩), undef, undef, u6, .int .i64 (k : Int), .pointer (some ⟨w.heap.size, 0, none⟩), .pointer (some ⟨w.heap.size, 0, none⟩), .int .i64 (te : Int), .pointer (some ⟨w.heap.size, 5, none⟩), .slice ra rl.length rc, .int .i64 (rl.length : Int), .int .i64 ((te : Int) - (rl.length : Int)), .int .i64 (M : Int), .int .i64 (k : Int), .bool true, .int .i64 (k : Int), x 0, .int .i64 rd, x 2, x 3, x 4, x 5, x 6, u26, u27, u28], []⟩ : Act) v
          refine wpOp_step rfl (fun K' hK' => ?_)
          go_simp
          have hg := Gr.al v (.cells (List.toArray [.int .i64 rd]) 3)
          exact hK' _ _ (hK _ _ hg (at_of rfl (⟨_, rfl, irow_one v rd⟩)))
        · show wpOp Try.prog _ _ 3 K (⟨#[.agg #[.int .i64 (te : Int), .int .i64 me, .int .i64 low, .int .i64 ba, .int .i64 off, .slice ra rl.length rc], .int .i64 st, .int .i64 rd, .pointer (some ⟨w.heap.size, 0, none⟩), undef, undef, u6, .int .i64 (k : Int), .pointer (some ⟨w.heap.size, 0, none⟩), .pointer (some ⟨w.heap.size, 0, none⟩), .int .i64 (te : Int), .pointer (some ⟨w.heap.size, 5, none⟩), .slice ra rl.length rc, .int .i64 (rl.length : Int), .int .i64 ((te : Int) - (rl.length : Int)), .int .i64 (M : Int), .int .i64 (k : Int), .bool true, .int .i64 (k : Int), x 0, x 1, x 2, x 3, x 4, x 5, x 6, u26, u27, u28], []⟩ : Act) v
          refine wpOp_step rfl (fun K' hK' => ?_)
          go_simp
          exact hK' _ _ (hK _ _ (Below.refl _ _) (at_of rfl (rfl)))
        · obtain ⟨b2, e2, h2⟩ := hd 2 _ (by simp) rfl
          obtain ⟨x, rfl⟩ := upd_of (show x 2 = .slice (some ⟨b2, 0, none⟩) 1 1 from e2)
          obtain ⟨x, rfl⟩ := upd_of (show x 3 = .int .i64 (k : Int) from hd 3 _ (by simp) rfl)
          show wpOp Try.prog _ _ 4 K (⟨#[.agg #[.int .i64 (te : Int), .int .i64 me, .int .i64 low, .int .i64 ba, .int .i64 off, .slice ra rl.length rc], .int .i64 st, .int .i64 rd, .pointer (some ⟨w.heap.size, 0, none⟩), undef, undef, u6, .int .i64 (k : Int), .pointer (some ⟨w.heap.size, 0, none⟩), .pointer (some ⟨w.heap.size, 0, none⟩), .int .i64 (te : Int), .pointer (some ⟨w.heap.size, 5, none⟩), .slice ra rl.length rc, .int .i64 (rl.length : Int), .int .i64 ((te : Int) - (rl.length : Int)), .int .i64 (M : Int), .int .i64 (k : Int), .bool true, .int .i64 (k : Int), x 0, x 1, .slice (some ⟨b2, 0, none⟩) 1 1, .int .i64 (k : Int), x 4, x 5, x 6, u26, u27, u28], []⟩ : Act) v
          refine wpOp_step rfl (fun K' hK' => ?_)
          go_simp
          refine (repeat_any' rd k (by omega) (some ⟨b2, 0, none⟩) 1 v h2).mono ?_
          rintro e v' ⟨a4, rfl, hr4, hn4, hg⟩
          exact hK' _ _ (hK _ _ hg (at_of rfl (⟨_, rfl, hr4, hn4⟩)))
        · obtain ⟨x, rfl⟩ := upd_of (show x 0 = .agg #[.int .i64 (te : Int), .int .i64 me, .int .i64 low, .int .i64 ba, .int .i64 off, .slice ra rl.length rc] from hd 0 _ (by simp) rfl)
          obtain ⟨a4, e4, h4, n4⟩ := hd 4 _ (by simp) rfl
          obtain ⟨x, rfl⟩ := upd_of (show x 4 = .slice a4 k k from e4)
          show wpOp Try.prog _ _ 5 K (⟨#[.agg #[.int .i64 (te : Int), .int .i64 me, .int .i64 low, .int .i64 ba, .int .i64 off, .slice ra rl.length rc], .int .i64 st, .int .i64 rd, .pointer (some ⟨w.heap.size, 0, none⟩), undef, undef, u6, .int .i64 (k : Int), .pointer (some ⟨w.heap.size, 0, none⟩), .pointer (some ⟨w.heap.size, 0, none⟩), .int .i64 (te : Int), .pointer (some ⟨w.heap.size, 5, none⟩), .slice ra rl.length rc, .int .i64 (rl.length : Int), .int .i64 ((te : Int) - (rl.length : Int)), .int .i64 (M : Int), .int .i64 (k : Int), .bool true, .int .i64 (k : Int), .agg #[.int .i64 (te : Int), .int .i64 me, .int .i64 low, .int .i64 ba, .int .i64 off, .slice ra rl.length rc], x 1, x 2, x 3, .slice a4 k k, x 5, x 6, u26, u27, u28], []⟩ : Act) v
          refine wpOp_step rfl (fun K' hK' => ?_)
          go_simp
          have c := state_any te me low ba off rl (List.replicate k rd) ra a4 rc k t1 m0 m1 o0 o1 a0 a1 hbd hlen v (HRR.out.grow gv) hrn h4 n4
          rw [List.length_replicate, show stateL (te : Int) me low ba (truthsL te off (rl ++ List.replicate k rd)) = sk from hsk] at c
          refine c.mono ?_
          rintro e v' ⟨rfl, hg⟩
          exact hK' _ _ (hK _ _ hg (at_of rfl (rfl)))
        · show wpOp Try.prog _ _ 6 K (⟨#[.agg #[.int .i64 (te : Int), .int .i64 me, .int .i64 low, .int .i64 ba, .int .i64 off, .slice ra rl.length rc], .int .i64 st, .int .i64 rd, .pointer (some ⟨w.heap.size, 0, none⟩), undef, undef, u6, .int .i64 (k : Int), .pointer (some ⟨w.heap.size, 0, none⟩), .pointer (some ⟨w.heap.size, 0, none⟩), .int .i64 (te : Int), .pointer (some ⟨w.heap.size, 5, none⟩), .slice ra rl.length rc, .int .i64 (rl.length : Int), .int .i64 ((te : Int) - (rl.length : Int)), .int .i64 (M : Int), .int .i64 (k : Int), .bool true, .int .i64 (k : Int), x 0, x 1, x 2, x 3, x 4, x 5, x 6, u26, u27, u28], []⟩ : Act) v
          refine wpOp_step rfl (fun K' hK' => ?_)
          go_simp
          exact hK' _ _ (hK _ _ (Below.refl _ _) (at_of rfl (rfl)))
      case fin4 =>
        rintro x v gv hd
        obtain ⟨x, rfl⟩ := upd_of (show x 5 = .int .i64 sk from hd 5 _ (by omega) rfl)
        obtain ⟨x, rfl⟩ := upd_of (show x 6 = .int .i64 st from hd 6 _ (by omega) rfl)
        clear hd
        show wpList Try.prog _ _ (List.drop 7 _) (⟨#[.agg #[.int .i64 (te : Int), .int .i64 me, .int .i64 low, .int .i64 ba, .int .i64 off, .slice ra rl.length rc], .int .i64 st, .int .i64 rd, .pointer (some ⟨w.heap.size, 0, none⟩), undef, undef, u6, .int .i64 (k : Int), .pointer (some ⟨w.heap.size, 0, none⟩), .pointer (some ⟨w.heap.size, 0, none⟩), .int .i64 (te : Int), .pointer (some ⟨w.heap.size, 5, none⟩), .slice ra rl.length rc, .int .i64 (rl.length : Int), .int .i64 ((te : Int) - (rl.length : Int)), .int .i64 (M : Int), .int .i64 (k : Int), .bool true, .int .i64 (k : Int), x 0, x 1, x 2, x 3, x 4, .int .i64 sk, .int .i64 st, u26, u27, u28], []⟩ : Act) v
        simp only [List.drop_succ_cons, List.drop_zero]
        have gZ := Lib.hid ((GU.out.tr GW.out).tr gv)
        have gY := Lib.hid (GW.out.tr gv)
        clear gv
        by_cases hE : sk = st
        · subst hE
          go_wp2
          go_ret
          refine ⟨?_, gZ.out⟩
          have hf : (List.range (te + 1 - rl.length)).find? (fun k => decide (stAt te me low ba off rl rd k = sk)) = some k := by
            rw [List.find?_range_eq_some]
            exact ⟨by simpa using hsk, List.mem_range.2 (by omega), fun j hj => by simpa using HNO.out j hj⟩
          unfold needL
          rw [hf]
          rfl
        · go_wp2
          go_roundw
          case rel =>
            refine Lib.hid ⟨k + 1, by omega, by go_num, fun j hj => ?_, gY.out⟩
            by_cases hjk : j = k
            · subst hjk
              rw [hsk]
              exact hE
            · exact HNO.out j (by omega)
          case measure => simp [intOf]; omega
    · obtain rfl : k = M := by omega
      go_wp2
      go_ret
      refine ⟨?_, GU.out.tr gw⟩
      have hf : (List.range (te + 1 - rl.length)).find? (fun k => decide (stAt te me low ba off rl rd k = st)) = none := by
        rw [List.find?_range_eq_none]
        intro j hj
        have := HNO.out j (by omega)
        simpa using this
      unfold needL
      rw [hf]
      rfl

end Go.Proofs.Ytkfhmfidgdpeiaa

namespace Go.Proofs.Ytkfhmfidgdpeiaa
set_option linter.unusedVariables false
set_option linter.unusedSimpArgs false
open Go.RowKit

set_option maxRecDepth 100000 in
set_option maxHeartbeats 4000000 in
theorem needF_ok (te me lo ba off : Int) (l : List Int) (h : ruleL te me lo ba off l = 0) (a : Option Addr) (cap : Nat) (w : World) (hr : IRow w a l) (hn : a = none → cap = 0) :
    Calls Try.prog 20 #[.agg #[.int .i64 te, .int .i64 me, .int .i64 lo, .int .i64 ba], .slice a l.length cap, .int .i64 off] w fun e w' => e = .returned (.tuple #[.int .i64 (needL te.toNat me lo ba off l 1 100000), .int .i64 (needL te.toNat me lo ba off l 2 0), .int .i64 0]) ∧ Gr w w' := by
  obtain ⟨⟨x0, x1⟩, ⟨x2, x3⟩, ⟨x4, x5⟩, ⟨x6, x7⟩, x8, x9⟩ := rule_parts h
  obtain ⟨n, rfl⟩ : ∃ n : Nat, te = (n : Int) := ⟨te.toNat, by omega⟩
  rw [Int.toNat_natCast]
  have oU := Own.new w [.int .i64 (n : Int), .int .i64 me, .int .i64 lo, .int .i64 ba] 23 w.heap.size rfl
  have gU := Gr.al w (.cells #[.int .i64 (n : Int), .int .i64 me, .int .i64 lo, .int .i64 ba] 23)
  have hR : ∀ W, Gr w W → Calls Try.prog 18 #[.agg #[.int .i64 (n : Int), .int .i64 me, .int .i64 lo, .int .i64 ba], .slice a l.length cap, .int .i64 off] W fun e w' => e = .returned (.int .i64 0) ∧ Gr W w' := fun W g => by
    have := rule_any (n : Int) me lo ba off l a cap W (hr.grow g)
    rw [h] at this
    exact this
  have hS : ∀ (st rd : Int), 0 ≤ rd → rd ≤ 100000 → ∀ W, Gr w W → Calls Try.prog 63 #[.agg #[.int .i64 (n : Int), .int .i64 me, .int .i64 lo, .int .i64 ba, .int .i64 off, .slice a l.length cap], .int .i64 st, .int .i64 rd] W fun e w' => e = .returned (.int .i64 (needL n me lo ba off l st rd)) ∧ Gr W w' := fun st rd r0 r1 W g =>
    need_any n me lo ba off l a cap st rd (by omega) (by omega) (by omega) (by omega) (by omega) (by omega) (by omega) x9 (by omega) r0 r1 W (hr.grow g) hn
  have HR := Lib.hid hR
  have HS := Lib.hid hS
  obtain ⟨q0, q1, q2, q3⟩ := oU.1.c4'
  have OU := Lib.hid oU
  have GU := Lib.hid gU
  clear hR hS oU gU h
  go_enter Try.func20, Try.ntmps20
  go_wp2_with fail
  refine (HR.out _ GU.out).mono ?_
  rintro e w1 ⟨rfl, g1⟩
  obtain ⟨q0, q1, q2, q3⟩ := (OU.out.keep g1).1.c4'
  have G1 := Lib.hid (GU.out.tr g1)
  have bx := Box.new w1 [.int .i64 (n : Int), .int .i64 me, .int .i64 lo, .int .i64 ba, .int .i64 off, .slice a l.length cap] 123 w1.heap.size rfl
  have BX := Lib.hid bx
  clear g1 bx
  go_upto_region 5 with fail
  have GV := Lib.hid (G1.out.tr (Gr.al w1 (.cells #[.int .i64 (n : Int), .int .i64 me, .int .i64 lo, .int .i64 ba, .int .i64 off, .slice a l.length cap] 123)))
  clear q0 q1 q2 q3
  refine wp_region_facts 5 [(1, 0), (3, 2), (4, 1)] (fun x => ⟨#[.agg #[.int .i64 (n : Int), .int .i64 me, .int .i64 lo, .int .i64 ba], .slice a l.length cap, .int .i64 off, .pointer (some ⟨w.heap.size, 0, none⟩), undef, undef, x 4, .int .i64 0, .int .i64 0, .int .i64 0, .pointer (some ⟨w1.heap.size, 0, none⟩), .agg #[.int .i64 (n : Int), .int .i64 me, .int .i64 lo, .int .i64 ba], .slice a l.length cap, .int .i64 off, .int .i64 0, .int .i64 0, .bool false, undef, .agg #[.int .i64 (n : Int), .int .i64 me, .int .i64 lo, .int .i64 ba], .int .i64 off, .agg #[.int .i64 off], .slice a l.length cap, .agg #[.int .i64 (n : Int), .int .i64 me, .int .i64 lo, .int .i64 ba, .int .i64 off, .slice a l.length cap], x 0, x 1, x 2, x 3], []⟩) (fun i => [undef, undef, undef, undef, .int .i64 0].getD i undef) [fun _ x => x = .agg #[.int .i64 (n : Int), .int .i64 me, .int .i64 lo, .int .i64 ba, .int .i64 off, .slice a l.length cap], fun _ x => x = .int .i64 (needL n me lo ba off l 1 100000), fun _ x => x = .agg #[.int .i64 (n : Int), .int .i64 me, .int .i64 lo, .int .i64 ba, .int .i64 off, .slice a l.length cap], fun _ x => x = .int .i64 (needL n me lo ba off l 2 0), fun _ x => x = .int .i64 (needL n me lo ba off l 1 100000)] (by rfl) (by kernel_rfl) (by kernel_rfl) (by kernel_rfl) (stays_cons (Stays.eq _) (stays_cons (Stays.eq _) (stays_cons (Stays.eq _) (stays_cons (Stays.eq _) (stays_cons (Stays.eq _) stays_nil))))) ?step5 ?fin5
  case step5 =>
    rintro i hi x v gv hd K hK
    have hi8 : i = 0 ∨ i = 1 ∨ i = 2 ∨ i = 3 ∨ i = 4 := by omega
    rcases hi8 with rfl | rfl | rfl | rfl | rfl
    · show wpOp Try.prog _ _ 0 K (⟨#[.agg #[.int .i64 (n : Int), .int .i64 me, .int .i64 lo, .int .i64 ba], .slice a l.length cap, .int .i64 off, .pointer (some ⟨w.heap.size, 0, none⟩), undef, undef, x 4, .int .i64 0, .int .i64 0, .int .i64 0, .pointer (some ⟨w1.heap.size, 0, none⟩), .agg #[.int .i64 (n : Int), .int .i64 me, .int .i64 lo, .int .i64 ba], .slice a l.length cap, .int .i64 off, .int .i64 0, .int .i64 0, .bool false, undef, .agg #[.int .i64 (n : Int), .int .i64 me, .int .i64 lo, .int .i64 ba], .int .i64 off, .agg #[.int .i64 off], .slice a l.length cap, .agg #[.int .i64 (n : Int), .int .i64 me, .int .i64 lo, .int .i64 ba, .int .i64 off, .slice a l.length cap], x 0, x 1, x 2, x 3], []⟩ : Act) v
      refine wpOp_step rfl (fun K' hK' => ?_)
      have p0 := ((BX.out.keep gv).2 0 _ rfl)
      have p1 := ((BX.out.keep gv).2 1 _ rfl)
      have p2 := ((BX.out.keep gv).2 2 _ rfl)
      have p3 := ((BX.out.keep gv).2 3 _ rfl)
      have p4 := ((BX.out.keep gv).2 4 _ rfl)
      have p5 := ((BX.out.keep gv).2 5 _ rfl)
      go_simp
      exact hK' _ _ (hK _ _ (Below.refl _ _) (at_of rfl (rfl)))
    · obtain ⟨x, rfl⟩ := upd_of (show x 0 = .agg #[.int .i64 (n : Int), .int .i64 me, .int .i64 lo, .int .i64 ba, .int .i64 off, .slice a l.length cap] from hd 0 _ (by simp) rfl)
      show wpOp Try.prog _ _ 1 K (⟨#[.agg #[.int .i64 (n : Int), .int .i64 me, .int .i64 lo, .int .i64 ba], .slice a l.length cap, .int .i64 off, .pointer (some ⟨w.heap.size, 0, none⟩), undef, undef, x 4, .int .i64 0, .int .i64 0, .int .i64 0, .pointer (some ⟨w1.heap.size, 0, none⟩), .agg #[.int .i64 (n : Int), .int .i64 me, .int .i64 lo, .int .i64 ba], .slice a l.length cap, .int .i64 off, .int .i64 0, .int .i64 0, .bool false, undef, .agg #[.int .i64 (n : Int), .int .i64 me, .int .i64 lo, .int .i64 ba], .int .i64 off, .agg #[.int .i64 off], .slice a l.length cap, .agg #[.int .i64 (n : Int), .int .i64 me, .int .i64 lo, .int .i64 ba, .int .i64 off, .slice a l.length cap], .agg #[.int .i64 (n : Int), .int .i64 me, .int .i64 lo, .int .i64 ba, .int .i64 off, .slice a l.length cap], x 1, x 2, x 3], []⟩ : Act) v
      refine wpOp_step rfl (fun K' hK' => ?_)
      go_simp
      refine (HS.out 1 100000 (by omega) (by omega) v (GV.out.tr gv)).mono ?_
      rintro e v' ⟨rfl, hg⟩
      exact hK' _ _ (hK _ _ hg (at_of rfl (rfl)))
    · show wpOp Try.prog _ _ 2 K (⟨#[.agg #[.int .i64 (n : Int), .int .i64 me, .int .i64 lo, .int .i64 ba], .slice a l.length cap, .int .i64 off, .pointer (some ⟨w.heap.size, 0, none⟩), undef, undef, x 4, .int .i64 0, .int .i64 0, .int .i64 0, .pointer (some ⟨w1.heap.size, 0, none⟩), .agg #[.int .i64 (n : Int), .int .i64 me, .int .i64 lo, .int .i64 ba], .slice a l.length cap, .int .i64 off, .int .i64 0, .int .i64 0, .bool false, undef, .agg #[.int .i64 (n : Int), .int .i64 me, .int .i64 lo, .int .i64 ba], .int .i64 off, .agg #[.int .i64 off], .slice a l.length cap, .agg #[.int .i64 (n : Int), .int .i64 me, .int .i64 lo, .int .i64 ba, .int .i64 off, .slice a l.length cap], x 0, x 1, x 2, x 3], []⟩ : Act) v
      refine wpOp_step rfl (fun K' hK' => ?_)
      have p0 := ((BX.out.keep gv).2 0 _ rfl)
      have p1 := ((BX.out.keep gv).2 1 _ rfl)
      have p2 := ((BX.out.keep gv).2 2 _ rfl)
      have p3 := ((BX.out.keep gv).2 3 _ rfl)
      have p4 := ((BX.out.keep gv).2 4 _ rfl)
      have p5 := ((BX.out.keep gv).2 5 _ rfl)
      go_simp
      exact hK' _ _ (hK _ _ (Below.refl _ _) (at_of rfl (rfl)))
    · obtain ⟨x, rfl⟩ := upd_of (show x 2 = .agg #[.int .i64 (n : Int), .int .i64 me, .int .i64 lo, .int .i64 ba, .int .i64 off, .slice a l.length cap] from hd 2 _ (by simp) rfl)
      show wpOp Try.prog _ _ 3 K (⟨#[.agg #[.int .i64 (n : Int), .int .i64 me, .int .i64 lo, .int .i64 ba], .slice a l.length cap, .int .i64 off, .pointer (some ⟨w.heap.size, 0, none⟩), undef, undef, x 4, .int .i64 0, .int .i64 0, .int .i64 0, .pointer (some ⟨w1.heap.size, 0, none⟩), .agg #[.int .i64 (n : Int), .int .i64 me, .int .i64 lo, .int .i64 ba], .slice a l.length cap, .int .i64 off, .int .i64 0, .int .i64 0, .bool false, undef, .agg #[.int .i64 (n : Int), .int .i64 me, .int .i64 lo, .int .i64 ba], .int .i64 off, .agg #[.int .i64 off], .slice a l.length cap, .agg #[.int .i64 (n : Int), .int .i64 me, .int .i64 lo, .int .i64 ba, .int .i64 off, .slice a l.length cap], x 0, x 1, .agg #[.int .i64 (n : Int), .int .i64 me, .int .i64 lo, .int .i64 ba, .int .i64 off, .slice a l.length cap], x 3], []⟩ : Act) v
      refine wpOp_step rfl (fun K' hK' => ?_)
      go_simp
      refine (HS.out 2 0 (by omega) (by omega) v (GV.out.tr gv)).mono ?_
      rintro e v' ⟨rfl, hg⟩
      exact hK' _ _ (hK _ _ hg (at_of rfl (rfl)))
    · obtain ⟨x, rfl⟩ := upd_of (show x 1 = .int .i64 (needL n me lo ba off l 1 100000) from hd 1 _ (by simp) rfl)
      show wpOp Try.prog _ _ 4 K (⟨#[.agg #[.int .i64 (n : Int), .int .i64 me, .int .i64 lo, .int .i64 ba], .slice a l.length cap, .int .i64 off, .pointer (some ⟨w.heap.size, 0, none⟩), undef, undef, x 4, .int .i64 0, .int .i64 0, .int .i64 0, .pointer (some ⟨w1.heap.size, 0, none⟩), .agg #[.int .i64 (n : Int), .int .i64 me, .int .i64 lo, .int .i64 ba], .slice a l.length cap, .int .i64 off, .int .i64 0, .int .i64 0, .bool false, undef, .agg #[.int .i64 (n : Int), .int .i64 me, .int .i64 lo, .int .i64 ba], .int .i64 off, .agg #[.int .i64 off], .slice a l.length cap, .agg #[.int .i64 (n : Int), .int .i64 me, .int .i64 lo, .int .i64 ba, .int .i64 off, .slice a l.length cap], x 0, .int .i64 (needL n me lo ba off l 1 100000), x 2, x 3], []⟩ : Act) v
      refine wpOp_step rfl (fun K' hK' => ?_)
      go_simp
      exact hK' _ _ (hK _ _ (Below.refl _ _) (at_of rfl (rfl)))
  case fin5 =>
    rintro x v gv hd
    obtain ⟨x, rfl⟩ := upd_of (show x 3 = .int .i64 (needL n me lo ba off l 2 0) from hd 3 _ (by omega) rfl)
    obtain ⟨x, rfl⟩ := upd_of (show x 4 = .int .i64 (needL n me lo ba off l 1 100000) from hd 4 _ (by omega) rfl)
    clear hd
    show wpList Try.prog _ _ (List.drop 5 _) (⟨#[.agg #[.int .i64 (n : Int), .int .i64 me, .int .i64 lo, .int .i64 ba], .slice a l.length cap, .int .i64 off, .pointer (some ⟨w.heap.size, 0, none⟩), undef, undef, .int .i64 (needL n me lo ba off l 1 100000), .int .i64 0, .int .i64 0, .int .i64 0, .pointer (some ⟨w1.heap.size, 0, none⟩), .agg #[.int .i64 (n : Int), .int .i64 me, .int .i64 lo, .int .i64 ba], .slice a l.length cap, .int .i64 off, .int .i64 0, .int .i64 0, .bool false, undef, .agg #[.int .i64 (n : Int), .int .i64 me, .int .i64 lo, .int .i64 ba], .int .i64 off, .agg #[.int .i64 off], .slice a l.length cap, .agg #[.int .i64 (n : Int), .int .i64 me, .int .i64 lo, .int .i64 ba, .int .i64 off, .slice a l.length cap], x 0, x 1, x 2, .int .i64 (needL n me lo ba off l 2 0)], []⟩ : Act) v
    simp only [List.drop_succ_cons, List.drop_zero]
    have GZ := Lib.hid (GV.out.tr gv)
    clear gv
    go_wp2
    exact bodyPost_ret (v := .tuple #[.int .i64 (needL n me lo ba off l 1 100000), .int .i64 (needL n me lo ba off l 2 0), .int .i64 0]) (by simp [results, Try.results20, go_sem]) rfl ⟨rfl, GZ.out⟩

end Go.Proofs.Ytkfhmfidgdpeiaa

namespace Go.Proofs.Ytkfhmfidgdpeiaa
set_option linter.unusedVariables false
set_option linter.unusedSimpArgs false
open Go.RowKit

theorem sumS_ge (hi : Bool) (m : Int) : ∀ l : List (Int × Int), (∀ x ∈ l, m ≤ if hi then x.2 else x.1) → (l.length : Int) * m ≤ sumS hi l
  | [], _ => by simp [sumS]
  | y :: l, h => by
    have h1 := sumS_ge hi m l (fun x hx => h x (List.mem_cons_of_mem _ hx))
    have h2 := h y List.mem_cons_self
    simp only [sumS, List.length_cons]
    rw [show ((l.length + 1 : Nat) : Int) = (l.length : Int) + 1 by omega, Int.add_mul, Int.one_mul]
    omega

theorem sumS_le (hi : Bool) (m : Int) : ∀ l : List (Int × Int), (∀ x ∈ l, (if hi then x.2 else x.1) ≤ m) → sumS hi l ≤ (l.length : Int) * m
  | [], _ => by simp [sumS]
  | y :: l, h => by
    have h1 := sumS_le hi m l (fun x hx => h x (List.mem_cons_of_mem _ hx))
    have h2 := h y List.mem_cons_self
    simp only [sumS, List.length_cons]
    rw [show ((l.length + 1 : Nat) : Int) = (l.length : Int) + 1 by omega, Int.add_mul, Int.one_mul]
    omega

theorem badS_len (hi : Bool) (low : Int) : ∀ l : List (Int × Int), badS hi low l ≤ (l.length : Int)
  | [] => by simp [badS]
  | y :: l => by
    have := badS_len hi low l
    simp only [badS, List.length_cons]
    split <;> split <;> omega

theorem truthsL_len (te : Nat) (off : Int) (l : List Int) : (truthsL te off l).length = te := by simp [truthsL]

/-- All readings so great that the least truths are at least the mean: the lot passes. -/
theorem state_pass (n : Nat) (m off : Int) (l : List Int) (h : ∀ k, k < n → m ≤ (truthAt off l k).1) : stateL (n : Int) m 0 (n : Int) (truthsL n off l) = 1 := by
  have hall : ∀ x ∈ truthsL n off l, m ≤ if false = true then x.2 else x.1 := fun x hx => by
    obtain ⟨k, hk, rfl⟩ := List.mem_map.1 hx
    simpa using h k (List.mem_range.1 hk)
  have h1 := sumS_ge false m _ hall
  have h2 := badS_len false 0 (truthsL n off l)
  rw [truthsL_len] at h1 h2
  unfold stateL
  rw [if_pos]
  unfold passB
  rw [decide_eq_true h2, decide_eq_true h1]
  rfl

/-- All readings so small that the greatest truths are below the mean: it fails. -/
theorem state_fail (n : Nat) (hn : 1 ≤ n) (m off : Int) (l : List Int) (h : ∀ k, k < n → (truthAt off l k).2 ≤ m - 1 ∧ (truthAt off l k).1 ≤ m - 1) : stateL (n : Int) m 0 (n : Int) (truthsL n off l) = 2 := by
  have aux : ∀ hi : Bool, passB hi (n : Int) m 0 (n : Int) (truthsL n off l) = false := fun hi => by
    have hall : ∀ x ∈ truthsL n off l, (if hi then x.2 else x.1) ≤ m - 1 := fun x hx => by
      obtain ⟨k, hk, rfl⟩ := List.mem_map.1 hx
      have := h k (List.mem_range.1 hk)
      cases hi
      · simpa using this.2
      · simpa using this.1
    have h1 := sumS_le hi (m - 1) _ hall
    rw [truthsL_len, Int.mul_sub, Int.mul_one] at h1
    have h3 : ¬ (n : Int) * m ≤ sumS hi (truthsL n off l) := by omega
    unfold passB
    rw [decide_eq_false h3, Bool.and_false]
  unfold stateL
  rw [aux false, aux true]
  simp

/-- A lot that passes with n tests needs at most n. -/
theorem need_in (n : Nat) (m low ba off : Int) (st rd : Int) (h : stAt n m low ba off [] rd n = st) : 0 ≤ needL n m low ba off [] st rd ∧ needL n m low ba off [] st rd ≤ n := by
  unfold needL
  cases hf : (List.range (n + 1 - ([] : List Int).length)).find? (fun k => decide (stAt n m low ba off [] rd k = st)) with
  | none =>
    rw [List.find?_range_eq_none] at hf
    have := hf n (by simp)
    simp [h] at this
  | some k =>
    have := List.mem_range.1 (List.mem_of_find?_eq_some hf)
    simp at this ⊢
    omega

/-- What fails needs none. -/
theorem need_zero (n : Nat) (m low ba off : Int) (l : List Int) (hl : l.length ≤ n) (st rd : Int) (h : stateL (n : Int) m low ba (truthsL n off l) = st) : needL n m low ba off l st rd = 0 := by
  have hf : (List.range (n + 1 - l.length)).find? (fun k => decide (stAt n m low ba off l rd k = st)) = some 0 := by
    rw [List.find?_range_eq_some]
    exact ⟨by simp [stAt, h], List.mem_range.2 (by omega), fun j hj => by omega⟩
  unfold needL
  rw [hf]
  rfl

end Go.Proofs.Ytkfhmfidgdpeiaa
