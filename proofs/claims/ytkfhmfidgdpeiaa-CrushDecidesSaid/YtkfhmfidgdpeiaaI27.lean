/- slices.Compare of ints; crush's most. -/
import Derived.Test.YtkfhmfidgdpeiaaI26
import Derived.Test.YtkfhmfidgdpeiaaShelf
namespace Go.Proofs.Ytkfhmfidgdpeiaa
set_option linter.unusedVariables false
set_option linter.unusedSimpArgs false
open Go.RowKit

def compL : List Int → List Int → Int
  | [], [] => 0
  | [], _ :: _ => -1
  | _ :: _, [] => 1
  | x :: l, y :: m => if Lib.compareInt x y = 0 then compL l m else Lib.compareInt x y

set_option maxRecDepth 100000 in
set_option maxHeartbeats 2000000 in
theorem compare_any (l m : List Int) (a b : Option Addr) (c d : Nat) (w : World) (hl : IRow w a l) (hm : IRow w b m) :
    Calls Try.prog 97 #[.slice a l.length c, .slice b m.length d] w fun e w' => e = .returned (.int .i64 (compL l m)) ∧ Gr w w' := by
  have hl0 := hl.1
  have hm0 := hm.1
  obtain ⟨r, hr⟩ : ∃ r, compL l m = r := ⟨_, rfl⟩
  rw [hr]
  have HR := Lib.hid hr
  clear hr
  go_enter Try.func97, Try.ntmps97
  go_wp2
  go_loopw [11] (fun t wr => Hid (∃ k : Nat, k ≤ l.length ∧ k ≤ m.length ∧ t = .int .i64 k ∧ Gr w wr ∧ compL (l.drop k) (m.drop k) = r)) (fun t _ => l.length - (intOf t).toNat)
  case atStart => exact Lib.hid ⟨0, Nat.zero_le _, Nat.zero_le _, rfl, Below.refl _ _, HR.out⟩
  case round =>
    obtain ⟨k, hk, hk', rfl, gW, hc⟩ := hrel.out
    clear hrel
    by_cases hlt : k < l.length
    · obtain ⟨x, hx⟩ : ∃ x, l[k]? = some x := ⟨l[k], by simp [hlt]⟩
      have e1 : l.drop k = x :: l.drop (k + 1) := by rw [List.drop_eq_getElem_cons hlt, (List.getElem?_eq_some_iff.1 hx).2]
      obtain ⟨b1, o1, rfl, h1, c1⟩ := IRow.get (hl.grow gW) hx
      by_cases hlt2 : k < m.length
      · obtain ⟨y, hy⟩ : ∃ y, m[k]? = some y := ⟨m[k], by simp [hlt2]⟩
        have e2 : m.drop k = y :: m.drop (k + 1) := by rw [List.drop_eq_getElem_cons hlt2, (List.getElem?_eq_some_iff.1 hy).2]
        obtain ⟨b2, o2, rfl, h2, c2⟩ := IRow.get (hm.grow gW) hy
        rw [e1, e2] at hc
        have hc' : (if Lib.compareInt x y = 0 then compL (l.drop (k + 1)) (m.drop (k + 1)) else Lib.compareInt x y) = r := hc
        have d1 : decide (m.length ≤ k) = false := by simp; omega
        obtain ⟨z, hz⟩ : ∃ z, Lib.compareInt x y = z := ⟨_, rfl⟩
        have hcall := Try.cmp_Compare_int x y wr
        rw [hz] at hc' hcall
        have HC := Lib.hid hcall
        clear hc hcall hz e1 e2 hx hy
        by_cases h0 : z = 0
        · subst h0
          rw [if_pos rfl] at hc'
          have HC' := Lib.hid hc'
          clear hc'
          go_wp2_with (go_at_call 110; refine HC.out.mono ?_; rintro e w4 ⟨rfl, rfl⟩)
          go_roundw
          case rel => exact Lib.hid ⟨k + 1, by omega, by omega, by go_num, gW, HC'.out⟩
          case measure => simp [intOf]; omega
        · have hz0 : (z != 0) = true := by simpa using h0
          rw [if_neg h0] at hc'
          have HC' := Lib.hid hc'
          clear hc'
          go_wp2_with (go_at_call 110; refine HC.out.mono ?_; rintro e w4 ⟨rfl, rfl⟩)
          go_ret
          exact ⟨ret_int HC'.out, gW⟩
      · have e2 : m.drop k = [] := by rw [List.drop_eq_nil_iff]; omega
        rw [e1, e2] at hc
        have hc' : 1 = r := hc
        have hmk : m.length = k := by omega
        have d1 : decide (m.length ≤ k) = true := by simp; omega
        have HC' := Lib.hid hc'
        clear hc hc' e1 e2 hx hmk
        go_wp2
        go_ret
        exact ⟨ret_int HC'.out, gW⟩
    · obtain rfl : k = l.length := by omega
      have e1 : l.drop l.length = [] := by simp
      rw [e1] at hc
      by_cases hlt2 : l.length < m.length
      · obtain ⟨y, hy⟩ : ∃ y, m[l.length]? = some y := ⟨m[l.length], by simp [hlt2]⟩
        have e2 : m.drop l.length = y :: m.drop (l.length + 1) := by rw [List.drop_eq_getElem_cons hlt2, (List.getElem?_eq_some_iff.1 hy).2]
        rw [e2] at hc
        have hc' : -1 = r := hc
        have HC' := Lib.hid hc'
        clear hc hc' e1 e2 hy
        go_wp2
        go_ret
        exact ⟨ret_int HC'.out, gW⟩
      · have e2 : m.drop l.length = [] := by rw [List.drop_eq_nil_iff]; omega
        rw [e2] at hc
        have hc' : 0 = r := hc
        have HC' := Lib.hid hc'
        clear hc hc' e1 e2
        go_wp2
        go_ret
        exact ⟨ret_int HC'.out, gW⟩

/-- The most boxes of the sets below k that stand; of several lists the smallest one. -/
def mostTo (f : Int → Bool) : Nat → List Nat
  | 0 => []
  | k + 1 => if f (k : Int) = true then (if (mostTo f k).length < (membL k).length ∨ ((membL k).length = (mostTo f k).length ∧ compL (intsN (membL k)) (intsN (mostTo f k)) < 0) then membL k else mostTo f k) else mostTo f k

set_option maxRecDepth 100000 in
set_option maxHeartbeats 4000000 in
theorem most_set (l : List Ld) (h10 : l.length ≤ 10) (a : Option Addr) (cap : Nat) (keep : Int) (m n : Nat) (f : Int → Bool) (w : World) (hm : MapB w m n f) :
    Calls Try.prog 89 #[.agg #[.slice a l.length cap, .int .i64 keep, .map (some m)]] w fun e w' => ∃ b c, e = .returned (.slice b (intsN (mostTo f (allN l + 1))).length c) ∧ IRow w' b (intsN (mostTo f (allN l + 1))) ∧ Gr w w' := by
  have gg := Gr.al w (.cells #[.slice a l.length cap, .int .i64 keep, .map (some m)] 146)
  have hb := Box.new w [.slice a l.length cap, .int .i64 keep, .map (some m)] 146 w.heap.size rfl
  have hN : allN l < 1024 := by have := pow_bd h10; unfold allN; omega
  obtain ⟨N, hNN⟩ : ∃ N, allN l = N := ⟨_, rfl⟩
  rw [hNN] at hN ⊢
  have c1 : ∀ W', Calls Try.prog 105 #[.agg #[.slice a l.length cap, .int .i64 keep, .map (some m)]] W' fun e w' => e = .returned (.int .i64 (N : Int)) ∧ Gr W' w' := fun W' => by
    have := all_any l h10 a cap keep (some m) W'
    rw [hNN] at this
    exact this
  have z0 : IntKind.i64.wrap ((N : Int) + 1) = (N : Int) + 1 := IntWalk.i64_in _ (by omega)
  clear hNN
  go_enter Try.func89, Try.ntmps89
  go_wp2_with (go_at_call 105; refine (c1 _).mono ?_; rintro e w3 ⟨rfl, g3⟩)
  have gX := gg.tr g3
  have hb3 := hb.keep g3
  have hm3 := hm.keep gX
  clear g3 hb hm gg c1 z0
  go_loopw [9, 3] (fun t v wr => Hid (∃ (k : Nat) (b : Option Addr) (c : Nat), k ≤ N + 1 ∧ t = .int .i64 k ∧ v = .slice b (intsN (mostTo f k)).length c ∧ Gr w3 wr ∧ IRow wr b (intsN (mostTo f k)))) (fun t _ _ => N + 1 - (intOf t).toNat)
  case atStart => exact Lib.hid ⟨0, none, 0, Nat.zero_le _, rfl, rfl, Below.refl _ _, RowOf.nil⟩
  case round =>
    obtain ⟨k, b, c, hk, rfl, rfl, gW, hrow⟩ := hrel.out
    clear hrel
    obtain ⟨B, hB⟩ : ∃ B, mostTo f k = B := ⟨_, rfl⟩
    rw [hB] at hrow ⊢
    by_cases hlt : k < N + 1
    · have hlt' : (k : Int) < (N : Int) + 1 := by omega
      have hb4 := hb3.keep gW
      obtain ⟨q0, q1, q2⟩ := Box.c3p hb4
      have hl := (hm3.keep gW).look (k : Int) (wf64 (by omega) (by omega))
      cases hf : f (k : Int) with
      | false =>
        rw [hf] at hl
        have hS : mostTo f (k + 1) = B := by rw [mostTo, hf, if_neg (by decide), hB]
        have HS := Lib.hid hS
        clear hS hB hf
        go_wp2
        go_roundw
        case rel => exact Lib.hid ⟨k + 1, b, c, by omega, by go_num, by rw [HS.out], gW, by rw [HS.out]; exact hrow⟩
        case measure => simp [intOf]; omega
      | true =>
        rw [hf] at hl
        obtain ⟨C, hC⟩ : ∃ C, membL k = C := ⟨_, rfl⟩
        have hS : mostTo f (k + 1) = if B.length < C.length ∨ (C.length = B.length ∧ compL (intsN C) (intsN B) < 0) then C else B := by rw [mostTo, hf, if_pos rfl, hB, hC]
        have hcol := fun W' b' (h : Own W' b' [.int .i64 (k : Int)]) => collect_members k (by omega) b' W' h
        rw [hC] at hcol
        have HCOL := Lib.hid hcol
        have HS := Lib.hid hS
        have lB := intsN_len B
        have lC := intsN_len C
        rw [← lB, ← lC] at hS
        obtain ⟨nb, hnb⟩ : ∃ nb, (intsN B).length = nb := ⟨_, rfl⟩
        obtain ⟨nc, hnc⟩ : ∃ nc, (intsN C).length = nc := ⟨_, rfl⟩
        rw [hnb, hnc] at hS
        clear HS lB lC hB hC hf hcol
        by_cases h1 : nb < nc
        · rw [if_pos (.inl h1)] at hS
          have HS := Lib.hid hS
          have HNB := Lib.hid hnb
          have HNC := Lib.hid hnc
          rw [hnb]
          clear hS hnb hnc
          go_wp2_with (first
            | (go_at_call 108; refine (members_any (k : Int) _).mono ?_; rintro e w4 ⟨rfl, o4, g4⟩)
            | (go_at_call 107; refine (HCOL.out _ _ o4).mono ?_; rintro e w5 ⟨a5, c5, rfl, r5, g5⟩; rw [HNC.out]))
          go_roundw
          case rel => exact Lib.hid ⟨k + 1, a5, c5, by omega, by go_num, by rw [HS.out, HNC.out], gW.tr (g4.tr g5), by rw [HS.out]; exact r5⟩
          case measure => simp [intOf]; omega
        · by_cases h2 : nc = nb
          · have h3 : ((nc : Int) == (nb : Int)) = true := by rw [beq_iff_eq]; omega
            have h1' : ¬ (nb : Int) < (nc : Int) := by omega
            obtain ⟨z, hz⟩ : ∃ z, compL (intsN C) (intsN B) = z := ⟨_, rfl⟩
            rw [hz] at hS
            have hcmp : ∀ W' a5 c5, IRow W' a5 (intsN C) → IRow W' b (intsN B) → Calls Try.prog 97 #[.slice a5 nc c5, .slice b nb c] W' fun e w' => e = .returned (.int .i64 z) ∧ Gr W' w' := fun W' a5 c5 r1 r2 => by
              have := compare_any (intsN C) (intsN B) a5 b c5 c W' r1 r2
              rw [hnc, hnb, hz] at this
              exact this
            have HCMP := Lib.hid hcmp
            by_cases h4 : z < 0
            · rw [if_pos (.inr ⟨h2, h4⟩)] at hS
              have HS := Lib.hid hS
              have HNB := Lib.hid hnb
              have HNC := Lib.hid hnc
              rw [hnb]
              clear hS hnb hnc hcmp h2 hz
              go_wp2_with (first
                | (go_at_call 108; refine (members_any (k : Int) _).mono ?_; rintro e w4 ⟨rfl, o4, g4⟩)
                | (go_at_call 107; refine (HCOL.out _ _ o4).mono ?_; rintro e w5 ⟨a5, c5, rfl, r5, g5⟩; rw [HNC.out])
                | (go_at_call 97; refine (HCMP.out _ _ _ r5 (hrow.grow (g4.tr g5))).mono ?_; rintro e w6 ⟨rfl, g6⟩))
              go_roundw
              case rel => exact Lib.hid ⟨k + 1, a5, c5, by omega, by go_num, by rw [HS.out, HNC.out], gW.tr (g4.tr (g5.tr g6)), by rw [HS.out]; exact r5.grow g6⟩
              case measure => simp [intOf]; omega
            · rw [if_neg (by omega)] at hS
              have HS := Lib.hid hS
              have HNB := Lib.hid hnb
              have HNC := Lib.hid hnc
              rw [hnb]
              clear hS hnb hnc hcmp h2 hz
              go_wp2_with (first
                | (go_at_call 108; refine (members_any (k : Int) _).mono ?_; rintro e w4 ⟨rfl, o4, g4⟩)
                | (go_at_call 107; refine (HCOL.out _ _ o4).mono ?_; rintro e w5 ⟨a5, c5, rfl, r5, g5⟩; rw [HNC.out])
                | (go_at_call 97; refine (HCMP.out _ _ _ r5 (hrow.grow (g4.tr g5))).mono ?_; rintro e w6 ⟨rfl, g6⟩))
              go_roundw
              case rel => exact Lib.hid ⟨k + 1, b, c, by omega, by go_num, by rw [HS.out, HNB.out], gW.tr (g4.tr (g5.tr g6)), by rw [HS.out]; exact hrow.grow (g4.tr (g5.tr g6))⟩
              case measure => simp [intOf]; omega
          · rw [if_neg (by omega)] at hS
            have h3 : ((nc : Int) == (nb : Int)) = false := by rw [beq_eq_false_iff_ne]; omega
            have HS := Lib.hid hS
            have HNB := Lib.hid hnb
            have HNC := Lib.hid hnc
            rw [hnb]
            clear hS hnb hnc
            go_wp2_with (first
              | (go_at_call 108; refine (members_any (k : Int) _).mono ?_; rintro e w4 ⟨rfl, o4, g4⟩)
              | (go_at_call 107; refine (HCOL.out _ _ o4).mono ?_; rintro e w5 ⟨a5, c5, rfl, r5, g5⟩; rw [HNC.out]))
            go_roundw
            case rel => exact Lib.hid ⟨k + 1, b, c, by omega, by go_num, by rw [HS.out, HNB.out], gW.tr (g4.tr g5), by rw [HS.out]; exact hrow.grow (g4.tr g5)⟩
            case measure => simp [intOf]; omega
    · obtain rfl : k = N + 1 := by omega
      have hlt' : ¬ ((N + 1 : Nat) : Int) < (N : Int) + 1 := by omega
      have HB := Lib.hid hB
      clear hB
      go_wp2
      go_ret
      exact ⟨b, ⟨c, by rw [HB.out]; rfl⟩, by rw [HB.out]; exact hrow, gX.tr gW⟩

end Go.Proofs.Ytkfhmfidgdpeiaa
