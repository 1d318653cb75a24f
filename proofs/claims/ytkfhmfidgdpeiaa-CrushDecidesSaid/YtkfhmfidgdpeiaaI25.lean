/- crush's order of a pile. -/
import Derived.Test.YtkfhmfidgdpeiaaI24
import Derived.Test.YtkfhmfidgdpeiaaP1
namespace Go.Proofs.Ytkfhmfidgdpeiaa
set_option linter.unusedVariables false
set_option linter.unusedSimpArgs false
open Go.RowKit

theorem memb_bit {s x : Nat} (h : x ∈ membL s) : x < 10 ∧ s.testBit x = true := by
  unfold membL membTo at h
  obtain ⟨h1, h2⟩ := List.mem_filter.1 h
  exact ⟨List.mem_range.1 h1, h2⟩

theorem memb_of {s x : Nat} (hx : x < 10) (h : s.testBit x = true) : x ∈ membL s := by
  unfold membL membTo
  exact List.mem_filter.2 ⟨List.mem_range.2 hx, h⟩

theorem low_bit {l : List Ld} {keep : Int} {f : Int → Bool} {s x : Nat} (h : lowO l keep f s = some x) : x < 10 ∧ s.testBit x = true ∧ lowB l keep f s x = true :=
  ⟨(memb_bit (List.mem_of_find?_eq_some h)).1, (memb_bit (List.mem_of_find?_eq_some h)).2, List.find?_some h⟩

theorem lowB_f {l : List Ld} {keep : Int} {f : Int → Bool} {s x : Nat} (h : lowB l keep f s x = true) : f ((without s x : Nat) : Int) = true := by
  unfold lowB at h
  split at h
  · simp only [Bool.and_eq_true] at h
    exact h.1
  · cases h

theorem find_congr {p q : Nat → Bool} : ∀ {l : List Nat}, (∀ x ∈ l, p x = q x) → l.find? p = l.find? q
  | [], _ => rfl
  | x :: l, h => by
    rw [List.find?_cons, List.find?_cons, h x List.mem_cons_self, find_congr (fun y hy => h y (List.mem_cons_of_mem _ hy))]

theorem low_congr {l : List Ld} {keep : Int} {f g : Int → Bool} {s : Nat} (hs : s < 1024) (h : ∀ y : Nat, y < s → f y = g y) : lowO l keep f s = lowO l keep g s := by
  refine find_congr fun x hx => ?_
  obtain ⟨h1, h2⟩ := memb_bit hx
  unfold lowB
  rw [h _ (without_lt hs h1 h2)]

/-- What is said of a set stays. -/
theorem stands_ge {l : List Ld} {keep : Int} : ∀ (k y : Nat), k ≤ y → 0 < y → standsTo l keep k (y : Int) = false
  | 0, y, _, h0 => by
    show (if (y : Int) = 0 then true else false) = false
    rw [if_neg (by omega)]
  | k + 1, y, h, h0 => by
    have ih := stands_ge (l := l) (keep := keep) k y (by omega) h0
    unfold standsTo
    split
    · show (if (y : Int) = (k : Int) then true else standsTo l keep k y) = false
      rw [if_neg (by omega)]
      exact ih
    · exact ih

theorem stands_keep {l : List Ld} {keep : Int} (y : Nat) : ∀ n : Nat, standsTo l keep (y + 1 + n) (y : Int) = standsTo l keep (y + 1) (y : Int)
  | 0 => rfl
  | n + 1 => by
    have ih := stands_keep (l := l) (keep := keep) y n
    rw [show y + 1 + (n + 1) = (y + 1 + n) + 1 by omega]
    rw [standsTo]
    split
    · show (if (y : Int) = ((y + 1 + n : Nat) : Int) then true else standsTo l keep (y + 1 + n) y) = _
      rw [if_neg (by omega)]
      exact ih
    · exact ih

theorem stands_at {l : List Ld} {keep : Int} {y k : Nat} (h : y < k) : standsTo l keep k (y : Int) = standsTo l keep (y + 1) (y : Int) := by
  have := stands_keep (l := l) (keep := keep) y (k - (y + 1))
  rwa [show y + 1 + (k - (y + 1)) = k by omega] at this

/-- A set stands just if it has a lowest box over others that stand. -/
theorem stands_iff {l : List Ld} {keep : Int} {s k : Nat} (h : s < k) (h0 : 0 < s) (hs : s < 1024) : standsTo l keep k (s : Int) = (lowO l keep (standsTo l keep k) s).isSome := by
  rw [stands_at h, low_congr (g := standsTo l keep s) hs (fun y hy => by rw [stands_at (show y < k by omega), stands_at hy])]
  rw [standsTo]
  split
  · rename_i h1
    rw [h1]
    show (if (s : Int) = (s : Int) then true else _) = true
    rw [if_pos rfl]
  · rename_i h1
    rw [stands_ge s s (Nat.le_refl _) h0]
    simpa using h1

/-- The order of a set's boxes from the bottom up. -/
def orderF (l : List Ld) (keep : Int) (f : Int → Bool) : Nat → Nat → List Nat
  | 0, _ => []
  | n + 1, s => match lowO l keep f s with
    | some x => x :: orderF l keep f n (without s x)
    | none => []

def orderL (l : List Ld) (keep : Int) (f : Int → Bool) (s : Nat) : List Nat := orderF l keep f s s

theorem orderF_zero {l : List Ld} {keep : Int} {f : Int → Bool} : ∀ n, orderF l keep f n 0 = []
  | 0 => rfl
  | n + 1 => by
    have : lowO l keep f 0 = none := find_no (fun y hy => by have := (memb_bit hy).2; simp at this)
    simp [orderF, this]

theorem orderF_fuel {l : List Ld} {keep : Int} {f : Int → Bool} : ∀ (s : Nat), s < 1024 → ∀ n, s ≤ n → orderF l keep f n s = orderF l keep f s s := by
  intro s
  induction s using Nat.strongRecOn with
  | ind s ih =>
    intro hs n hn
    cases s with
    | zero => rw [orderF_zero]; rfl
    | succ s =>
      obtain ⟨n, rfl⟩ : ∃ m, n = m + 1 := ⟨n - 1, by omega⟩
      simp only [orderF]
      cases h : lowO l keep f (s + 1) with
      | none => rfl
      | some x =>
        obtain ⟨h1, h2, _⟩ := low_bit h
        have hlt := without_lt hs h1 h2
        show x :: _ = x :: _
        rw [ih _ hlt (by omega) n (by omega), ih _ hlt (by omega) s (by omega)]

theorem orderL_step {l : List Ld} {keep : Int} {f : Int → Bool} {s x : Nat} (hs : s < 1024) (h0 : 0 < s) (h : lowO l keep f s = some x) : orderL l keep f s = x :: orderL l keep f (without s x) := by
  obtain ⟨h1, h2, _⟩ := low_bit h
  have hlt := without_lt hs h1 h2
  obtain ⟨n, rfl⟩ : ∃ m, s = m + 1 := ⟨s - 1, by omega⟩
  unfold orderL
  rw [orderF, h]
  show x :: _ = x :: _
  rw [orderF_fuel _ (by omega) n (by omega)]

def intsN (l : List Nat) : List Int := l.map (fun n : Nat => (n : Int))

theorem intsN_len (l : List Nat) : (intsN l).length = l.length := by simp [intsN]

theorem pow_wrap {x : Nat} (hx : x < 10) : IntKind.i64.wrap ((2 : Int) ^ x) = (2 : Int) ^ x := by
  have h2 := pow_1024 hx
  rw [show (2 : Int) ^ x = ((2 ^ x : Nat) : Int) by simp]
  exact wrap_small _ h2

set_option maxRecDepth 100000 in
set_option maxHeartbeats 2000000 in
theorem order_no (l : List Ld) (h10 : l.length ≤ 10) (a : Option Addr) (cap : Nat) (keep : Int) (m n : Nat) (f : Int → Bool) (w : World) (hm : MapB w m n f) (hF : f ((allN l : Nat) : Int) = false) :
    Calls Try.prog 88 #[.agg #[.slice a l.length cap, .int .i64 keep, .map (some m)]] w fun e w' => e = .returned (.tuple #[.slice none 0 0, .bool false]) ∧ Gr w w' := by
  have gg := Gr.al w (.cells #[.slice a l.length cap, .int .i64 keep, .map (some m)] 146)
  have hb := Box.new w [.slice a l.length cap, .int .i64 keep, .map (some m)] 146 w.heap.size rfl
  have hN : allN l < 1024 := by have := pow_bd h10; unfold allN; omega
  obtain ⟨N, hNN⟩ : ∃ N, allN l = N := ⟨_, rfl⟩
  rw [hNN] at hF hN
  have c1 : ∀ W', Calls Try.prog 105 #[.agg #[.slice a l.length cap, .int .i64 keep, .map (some m)]] W' fun e w' => e = .returned (.int .i64 (N : Int)) ∧ Gr W' w' := fun W' => by
    have := all_any l h10 a cap keep (some m) W'
    rw [hNN] at this
    exact this
  clear hNN
  go_enter Try.func88, Try.ntmps88
  go_wp2_with (go_at_call 105; refine (c1 _).mono ?_; rintro e w3 ⟨rfl, g3⟩; obtain ⟨q0, q1, q2⟩ := Box.c3p (hb.keep g3); have hl := (hm.keep (gg.tr g3)).look (N : Int) (wf64 (by omega) (by omega)); rw [hF] at hl)
  go_ret2
  exact ⟨rfl, gg.tr g3⟩

set_option maxRecDepth 100000 in
set_option maxHeartbeats 4000000 in
theorem order_yes (l : List Ld) (h10 : l.length ≤ 10) (hB : ∀ x ∈ l, LdOk x) (a : Option Addr) (cap : Nat) (keep : Int) (k0 : 0 ≤ keep) (k1 : keep ≤ 1000) (m n : Nat) (f : Int → Bool) (hf : f = standsTo l keep (allN l + 1)) (w : World) (hr : LRow w a l) (hm : MapB w m n f) (hF : f ((allN l : Nat) : Int) = true) :
    Calls Try.prog 88 #[.agg #[.slice a l.length cap, .int .i64 keep, .map (some m)]] w fun e w' => ∃ b c, e = .returned (.tuple #[.slice b (intsN (orderL l keep f (allN l))).length c, .bool true]) ∧ IRow w' b (intsN (orderL l keep f (allN l))) ∧ Gr w w' := by
  obtain ⟨i0, hi, hz0, hz1, hz2⟩ := info_parts infoInt
  have gg := Gr.al w (.cells #[.slice a l.length cap, .int .i64 keep, .map (some m)] 146)
  have hb := Box.new w [.slice a l.length cap, .int .i64 keep, .map (some m)] 146 w.heap.size rfl
  have hp := pow_bd h10
  have hN1 : allN l < 2 ^ l.length := by unfold allN; omega
  obtain ⟨N, hNN⟩ : ∃ N, allN l = N := ⟨_, rfl⟩
  rw [hNN] at hF hN1 hf ⊢
  have HN1 := Lib.hid hN1
  have hN : N < 1024 := by omega
  have c1 : ∀ W', Calls Try.prog 105 #[.agg #[.slice a l.length cap, .int .i64 keep, .map (some m)]] W' fun e w' => e = .returned (.int .i64 (N : Int)) ∧ Gr W' w' := fun W' => by
    have := all_any l h10 a cap keep (some m) W'
    rw [hNN] at this
    exact this
  have HFF := Lib.hid hf
  have HF := Lib.hid hF
  clear hNN hf hp hN1
  go_enter Try.func88, Try.ntmps88
  go_wp2_with (go_at_call 105; refine (c1 _).mono ?_; rintro e w3 ⟨rfl, g3⟩; obtain ⟨q0, q1, q2⟩ := Box.c3p (hb.keep g3); have hl := (hm.keep (gg.tr g3)).look (N : Int) (wf64 (by omega) (by omega)); rw [hF] at hl)
  have gX := gg.tr g3
  have hb3 := hb.keep g3
  have hm3 := hm.keep gX
  have hr3 := hr.grow gX
  clear hl q0 q1 q2 g3 hb hm hr gg hF c1
  go_loopw [4, 2] (fun t v wr => Hid (∃ (s : Nat) (pre : List Nat), s ≤ N ∧ t = .int .i64 s ∧ f (s : Int) = true ∧ pre ++ orderL l keep f s = orderL l keep f N ∧ pre.length + s ≤ N ∧ Gr w3 wr ∧ wr.ownsRow w3.heap.size 3 1 v pre.length ((intsN pre).flatMap encI))) (fun t _ _ => (intOf t).toNat)
  case atStart => exact Lib.hid ⟨N, [], Nat.le_refl _, rfl, HF.out, rfl, by simp, Below.refl _ _, World.ownsRow_nil _ _ _ _⟩
  case round =>
    obtain ⟨s, pre, hsN, rfl, hfs, hpre, hlen, gW, hown⟩ := hrel.out
    clear hrel
    by_cases h0 : s = 0
    · subst h0
      have e0 : orderL l keep f 0 = [] := rfl
      rw [e0, List.append_nil] at hpre
      have hl1 := intsN_len pre
      obtain ⟨b, c, hv, hr4⟩ := owns_row (enc := encI) (l := intsN pre) (fun _ => rfl) (by rw [hl1]; omega) (by rw [hl1]; exact hown)
      subst hv
      rw [hpre] at hr4
      have HR := Lib.hid hr4
      have HP := Lib.hid hpre
      clear hr4 hown hpre hl1
      go_wp2
      rw [HP.out]
      go_ret2
      exact ⟨b, ⟨c, rfl⟩, HR.out, gX.tr gW⟩
    · have hs0 : ((s : Int) == 0) = false := by simpa using h0
      have hlow := stands_iff (l := l) (keep := keep) (s := s) (k := N + 1) (by omega) (by omega) (by omega)
      rw [← HFF.out, hfs] at hlow
      obtain ⟨x, hx⟩ : ∃ x, lowO l keep f s = some x := Option.isSome_iff_exists.1 hlow.symm
      obtain ⟨x10, xb, xl⟩ := low_bit hx
      have hfx := lowB_f xl
      have hbits := without_bits (show s < 1024 by omega) x10 xb
      have hlt := without_lt (show s < 1024 by omega) x10 xb
      have hstep := orderL_step (show s < 1024 by omega) (by omega) hx
      have hpw := pow_wrap x10
      have hcl := lowest_set l h10 hB s (by have := HN1.out; omega) a cap keep k0 k1 m n f wr (hr3.grow gW) (hm3.keep gW)
      rw [lowV_some hx] at hcl
      obtain ⟨q0, q1, q2⟩ := Box.c3p (hb3.keep gW)
      obtain ⟨O, hO⟩ : ∃ O, without s x = O := ⟨_, rfl⟩
      rw [hO] at hfx hbits hlt hstep
      have hk1 : pre.length + 1 ≤ maxLen := by unfold maxLen; omega
      have hk2 : (pre.length + 1) * 8 ≤ 140737488355328 := by omega
      have HC := Lib.hid hcl
      have HST := Lib.hid hstep
      have HPR := Lib.hid hpre
      have HFX := Lib.hid hfx
      have HFS := Lib.hid hfs
      clear hlow hx xl hcl hO hstep hpre hfx hfs xb
      go_wp2_with (first
        | (go_at_call 106; refine HC.out.mono ?_; rintro e w4 ⟨rfl, g4⟩)
        | (at_builtin; refine wpList_append_own _ rfl _ _ 24 rfl w3.heap.size 3 i0 (.int .i64 0) 1 8 Try.underlying24 hi hz0 hz1 hz2 rfl (by decide) _ _ _ rfl (owns_keep (owns_keep hown g4) (Gr.al w4 (.cells #[.int .i64 (x : Int)] 3))) ⟨w4.heap.size, 0, none⟩ 1 1 ([(x : Int)].map (fun n => Value.int .i64 n)) rfl rfl (cell_news _ _ _) (ints_one _) hk1 hk2 ((gW.tr g4).tr (Gr.al _ _)).size ?_; intro v' w6 hown' hgrow' _))
      go_roundw
      case rel =>
        have hR : Gr w3 w6 := ((gW.tr g4).tr (Gr.al _ _)).grown' (owns_keep (owns_keep hown g4) (Gr.al _ _)) (Nat.le_refl _) hgrow'
        have hl : w6.ownsRow w3.heap.size 3 1 v' (pre ++ [x]).length ((intsN (pre ++ [x])).flatMap encI) := by
          rw [List.length_append]
          unfold intsN
          rw [List.map_append, List.flatMap_append]
          exact hown'
        refine Lib.hid ⟨O, pre ++ [x], by omega, rfl, HFX.out, ?_, by simp; omega, hR, hl⟩
        rw [← HPR.out, HST.out, List.append_assoc]
        rfl
      case measure => simp [intOf]; omega

end Go.Proofs.Ytkfhmfidgdpeiaa
