/- crush.Odd. -/
import Derived.Test.YtkfhmfidgdpeiaaI27
namespace Go.Proofs.Ytkfhmfidgdpeiaa
set_option linter.unusedVariables false
set_option linter.unusedSimpArgs false
open Go.RowKit

def exceptTo (p : Int → Bool) (l : List Int) (k : Nat) : List Nat := (List.range k).filter (fun i => !p (l.getD i 0))

theorem exceptTo_succ (p : Int → Bool) (l : List Int) (k : Nat) : exceptTo p l (k + 1) = if p (l.getD k 0) = true then exceptTo p l k else exceptTo p l k ++ [k] := by
  unfold exceptTo
  rw [List.range_succ, List.filter_append]
  cases h : p (l.getD k 0) <;> (rw [List.getD_eq_getElem?_getD] at h; simp [h])

theorem exceptTo_len (p : Int → Bool) (l : List Int) (k : Nat) : (exceptTo p l k).length ≤ k := by
  have := List.length_filter_le (fun i => !p (l.getD i 0)) (List.range k)
  simpa [exceptTo] using this

def inWin (off spread from' r : Int) : Bool := decide (from' ≤ min 100000 (r + off)) && decide (max 0 (r - off) ≤ from' + spread)

def leftL (off spread : Int) (l : List Int) (i : Nat) : List Nat := exceptTo (inWin off spread (min 100000 (l.getD i 0 + off))) l l.length

/-- The fewest readings without which the others can be as close as spread. -/
def oddTo (off spread : Int) (l : List Int) : Nat → List Nat
  | 0 => []
  | k + 1 => if k = 0 ∨ (leftL off spread l k).length < (oddTo off spread l k).length ∨ ((leftL off spread l k).length = (oddTo off spread l k).length ∧ compL (intsN (leftL off spread l k)) (intsN (oddTo off spread l k)) < 0) then leftL off spread l k else oddTo off spread l k

theorem callOdd (args : Array Value) (W : World) : (callFunc 96 args).run Try.prog W = .ok (.enter 96 args) W := by kernel_rfl

set_option maxRecDepth 100000 in
set_option maxHeartbeats 2000000 in
theorem oddClosure (off spread from' r : Int) (o0 : 0 ≤ off) (o1 : off ≤ 1000) (s0 : 0 ≤ spread) (s1 : spread ≤ 100000) (f0 : 0 ≤ from') (f1 : from' ≤ 100000) (r0 : 0 ≤ r) (r1 : r ≤ 100000) (b3 b10 b5 : Nat) (W : World)
    (q3 : Box W b3 [.int .i64 off]) (q10 : Box W b10 [.int .i64 from']) (q5 : Box W b5 [.int .i64 spread]) :
    Calls Try.prog 96 #[.int .i64 r, .pointer (some ⟨b3, 0, none⟩), .pointer (some ⟨b10, 0, none⟩), .pointer (some ⟨b5, 0, none⟩)] W fun e W' => e = .returned (.bool (inWin off spread from' r)) ∧ Gr W W' := by
  have c3 := q3.c1
  have v0 : IntKind.i64.wrap (from' + spread) = from' + spread := IntWalk.i64_in _ (by omega)
  obtain ⟨lo, hlo⟩ : ∃ lo, max 0 (r - off) = lo := ⟨_, rfl⟩
  obtain ⟨hi, hhi⟩ : ∃ hi, min 100000 (r + off) = hi := ⟨_, rfl⟩
  have hT : ∀ V, Calls Try.prog 94 #[.agg #[.int .i64 off], .int .i64 r] V fun e w' => e = .returned (.agg #[.int .i64 lo, .int .i64 hi]) ∧ Gr V w' := fun V => by
    have := truth_any off r o0 o1 r0 r1 V
    rw [hlo, hhi] at this
    exact this
  have E : inWin off spread from' r = (decide (from' ≤ hi) && decide (lo ≤ from' + spread)) := by unfold inWin; rw [hlo, hhi]
  rw [E]
  clear hlo hhi E
  by_cases h1 : from' ≤ hi
  · have e1 : decide (from' ≤ hi) = true := by simpa using h1
    go_enter Try.func96, Try.ntmps96
    go_wp2_with (go_at_call 94; refine (hT _).mono ?_; rintro e w1 ⟨rfl, g1⟩; (obtain ⟨d0, d1⟩ := (Box.new w1 [.int .i64 lo, .int .i64 hi] 45 w1.heap.size rfl).c2); have c10 := ((q10.keep g1).keep (Gr.al w1 (.cells #[.int .i64 lo, .int .i64 hi] 45))).c1; have c5 := ((q5.keep g1).keep (Gr.al w1 (.cells #[.int .i64 lo, .int .i64 hi] 45))).c1)
    rw [e1, Bool.true_and]
    go_ret
    exact ⟨rfl, g1.tr (Gr.al _ _)⟩
  · have e1 : decide (from' ≤ hi) = false := by simpa using h1
    go_enter Try.func96, Try.ntmps96
    go_wp2_with (go_at_call 94; refine (hT _).mono ?_; rintro e w1 ⟨rfl, g1⟩; (obtain ⟨d0, d1⟩ := (Box.new w1 [.int .i64 lo, .int .i64 hi] 45 w1.heap.size rfl).c2); have c10 := ((q10.keep g1).keep (Gr.al w1 (.cells #[.int .i64 lo, .int .i64 hi] 45))).c1; have c5 := ((q5.keep g1).keep (Gr.al w1 (.cells #[.int .i64 lo, .int .i64 hi] 45))).c1)
    rw [e1, Bool.false_and]
    go_ret
    exact ⟨rfl, g1.tr (Gr.al _ _)⟩

set_option maxRecDepth 100000 in
set_option maxHeartbeats 2000000 in
theorem except_any (p : Int → Bool) (l : List Int) (hlen : l.length ≤ 1000) (fid : FuncId) (c0 c1 c2 : Value) (a : Option Addr) (cap : Nat) (w : World) (hl : IRow w a l)
    (hcall : ∀ (args : Array Value) (W : World), (callFunc fid args).run Try.prog W = .ok (.enter fid args) W)
    (hf : ∀ (r : Int) (W : World), Gr w W → r ∈ l → Calls Try.prog fid #[.int .i64 r, c0, c1, c2] W fun e W' => e = .returned (.bool (p r)) ∧ Gr W W') :
    Calls Try.prog 95 #[.slice a l.length cap, .func (.func fid) #[] #[c0, c1, c2]] w fun e w' => ∃ b d, e = .returned (.slice b (intsN (exceptTo p l l.length)).length d) ∧ IRow w' b (intsN (exceptTo p l l.length)) ∧ Gr w w' := by
  obtain ⟨i0, hi, hz0, hz1, hz2⟩ := info_parts infoInt
  have HF := Lib.hid hf
  clear hf
  go_enter Try.func95, Try.ntmps95
  go_wp2
  go_loopw [10, 5] (fun t v wr => Hid (∃ k : Nat, k ≤ l.length ∧ t = .int .i64 k ∧ Gr w wr ∧ wr.ownsRow w.heap.size 3 1 v (exceptTo p l k).length ((intsN (exceptTo p l k)).flatMap encI))) (fun t _ _ => l.length - (intOf t).toNat)
  case atStart => exact Lib.hid ⟨0, Nat.zero_le _, rfl, Below.refl _ _, World.ownsRow_nil _ _ _ _⟩
  case round =>
    obtain ⟨k, hk, rfl, gW, hown⟩ := hrel.out
    clear hrel
    by_cases hlt : k < l.length
    · obtain ⟨x, hx⟩ : ∃ x, l[k]? = some x := ⟨l[k], by simp [hlt]⟩
      obtain ⟨b1, o1, rfl, h1, cc⟩ := IRow.get (hl.grow gW) hx
      have hS := exceptTo_succ p l k
      have hgd : l.getD k 0 = x := by simp [List.getD, hx]
      rw [hgd] at hS
      have hln := exceptTo_len p l k
      have hcl := HF.out x wr gW (List.mem_of_getElem? hx)
      have hk1 : (exceptTo p l k).length + 1 ≤ maxLen := by unfold maxLen; omega
      have hk2 : ((exceptTo p l k).length + 1) * 8 ≤ 140737488355328 := by omega
      cases hp : p x with
      | true =>
        rw [hp] at hcl hS
        rw [if_pos rfl] at hS
        have HC := Lib.hid hcl
        have HS := Lib.hid hS
        clear hcl hS hgd hx hp hln hk1 hk2
        go_wp2_with fail
        refine HC.out.mono ?_
        rintro e w2 ⟨rfl, g2⟩
        go_wp2
        go_roundw
        case rel => exact Lib.hid ⟨k + 1, by omega, by go_num, gW.tr g2, by rw [HS.out]; exact owns_keep hown g2⟩
        case measure => simp [intOf]; omega
      | false =>
        rw [hp] at hcl hS
        rw [if_neg (by decide)] at hS
        have HC := Lib.hid hcl
        have HS := Lib.hid hS
        clear hcl hS hgd hx hp hln
        go_wp2_with fail
        refine HC.out.mono ?_
        rintro e w2 ⟨rfl, g2⟩
        go_wp2_with (at_builtin; refine wpList_append_own _ rfl _ _ 24 rfl w.heap.size 3 i0 (.int .i64 0) 1 8 Try.underlying24 hi hz0 hz1 hz2 rfl (by decide) _ _ _ rfl (owns_keep (owns_keep hown g2) (Gr.al w2 (.cells #[.int .i64 (k : Int)] 3))) ⟨w2.heap.size, 0, none⟩ 1 1 ([(k : Int)].map (fun n => Value.int .i64 n)) rfl rfl (cell_news _ _ _) (ints_one _) hk1 hk2 ((gW.tr g2).tr (Gr.al _ _)).size ?_; intro v' w6 hown' hgrow' _)
        go_roundw
        case rel =>
          have hR : Gr w w6 := ((gW.tr g2).tr (Gr.al _ _)).grown' (owns_keep (owns_keep hown g2) (Gr.al _ _)) (Nat.le_refl _) hgrow'
          have hl : w6.ownsRow w.heap.size 3 1 v' (exceptTo p l (k + 1)).length ((intsN (exceptTo p l (k + 1))).flatMap encI) := by
            rw [HS.out, List.length_append]
            unfold intsN
            rw [List.map_append, List.flatMap_append]
            exact hown'
          exact Lib.hid ⟨k + 1, by omega, by go_num, hR, hl⟩
        case measure => simp [intOf]; omega
    · obtain rfl : k = l.length := by omega
      have hl1 := intsN_len (exceptTo p l l.length)
      have hln := exceptTo_len p l l.length
      obtain ⟨b, d, hv, hr4⟩ := owns_row (enc := encI) (l := intsN (exceptTo p l l.length)) (fun _ => rfl) (by rw [hl1]; omega) (by rw [hl1]; exact hown)
      subst hv
      have HR := Lib.hid hr4
      clear hr4 hown hl1 hln
      go_wp2
      go_ret
      exact ⟨b, ⟨d, rfl⟩, HR.out, gW⟩

theorem fieldSp1 (a b : Value) (w : World) : (Instr.field 45 (.agg #[a, b]) 1).run Try.prog w = .ok b w := by kernel_rfl

theorem getD_in {l : List Int} {k : Nat} (h : k < l.length) : ∃ x, l[k]? = some x ∧ l.getD k 0 = x ∧ x ∈ l := by
  have hx : l[k]? = some l[k] := by simp [h]
  exact ⟨l[k], hx, by simp [List.getD, hx], List.getElem_mem h⟩

set_option maxRecDepth 100000 in
set_option maxHeartbeats 4000000 in
theorem odd_any (off spread : Int) (o0 : 0 ≤ off) (o1 : off ≤ 1000) (s0 : 0 ≤ spread) (s1 : spread ≤ 100000) (l : List Int) (hlen : l.length ≤ 1000) (hB : ∀ r ∈ l, 0 ≤ r ∧ r ≤ 100000) (a : Option Addr) (cap : Nat) (w : World) (hl : IRow w a l) :
    Calls Try.prog 67 #[.agg #[.int .i64 off], .slice a l.length cap, .int .i64 spread] w fun e w' => ∃ b d, e = .returned (.slice b (intsN (oddTo off spread l l.length)).length d) ∧ IRow w' b (intsN (oddTo off spread l l.length)) ∧ Gr w w' := by
  have gg := (Gr.al w (.cells #[.int .i64 off] 121)).tr (Gr.al _ (.cells #[.int .i64 spread] 3))
  have b3 := (Box.new w [.int .i64 off] 121 w.heap.size rfl).keep (Gr.al _ (.cells #[.int .i64 spread] 3))
  have b5 := Box.new (w.alloc (.cells #[.int .i64 off] 121)) [.int .i64 spread] 3 (w.heap.size + 1) (by simp)
  have HBB := Lib.hid hB
  clear hB
  go_enter Try.func67, Try.ntmps67
  go_wp2
  obtain ⟨w3, hw3⟩ : ∃ w3, w3 = (w.alloc (.cells #[.int .i64 off] 121)).alloc (.cells #[.int .i64 spread] 3) := ⟨_, rfl⟩
  rw [← hw3] at gg b3 b5 ⊢
  clear hw3
  go_loopw [14, 7] (fun t v wr => Hid (∃ (k : Nat) (b : Option Addr) (c : Nat), k ≤ l.length ∧ t = .int .i64 k ∧ v = .slice b (intsN (oddTo off spread l k)).length c ∧ Gr w3 wr ∧ IRow wr b (intsN (oddTo off spread l k)))) (fun t _ _ => l.length - (intOf t).toNat)
  case atStart => exact Lib.hid ⟨0, none, 0, Nat.zero_le _, rfl, rfl, Below.refl _ _, RowOf.nil⟩
  case round =>
    obtain ⟨k, b, c, hk, rfl, rfl, gW, hrow⟩ := hrel.out
    clear hrel
    obtain ⟨B, hB⟩ : ∃ B, oddTo off spread l k = B := ⟨_, rfl⟩
    rw [hB] at hrow ⊢
    by_cases hlt : k < l.length
    · obtain ⟨x, hx, hgd, hmem⟩ := getD_in hlt
      obtain ⟨x0, x1⟩ := HBB.out x hmem
      have hrw := hl.grow (gg.tr gW)
      obtain ⟨bl, ol, rfl, h1l, cc⟩ := IRow.get hrw hx
      have q3 := (b3.keep gW).c1
      obtain ⟨C, hC⟩ : ∃ C, leftL off spread l k = C := ⟨_, rfl⟩
      have hS : oddTo off spread l (k + 1) = if k = 0 ∨ C.length < B.length ∨ (C.length = B.length ∧ compL (intsN C) (intsN B) < 0) then C else B := by rw [oddTo, hB, hC]
      obtain ⟨fr, hfr⟩ : ∃ fr, min 100000 (x + off) = fr := ⟨_, rfl⟩
      obtain ⟨lo, hlo⟩ : ∃ lo, max 0 (x - off) = lo := ⟨_, rfl⟩
      have hT : ∀ V, Calls Try.prog 94 #[.agg #[.int .i64 off], .int .i64 x] V fun e w' => e = .returned (.agg #[.int .i64 lo, .int .i64 fr]) ∧ Gr V w' := fun V => by
        have := truth_any off x o0 o1 x0 x1 V
        rw [hlo, hfr] at this
        exact this
      have hC' : exceptTo (inWin off spread fr) l l.length = C := by rw [← hC]; unfold leftL; rw [hgd, hfr]
      have hEX : ∀ (D : Nat) (V : World), Gr w3 V → Box V D [.int .i64 fr] → Calls Try.prog 95 #[.slice (some ⟨bl, ol, none⟩) l.length cap, .func (.func 96) #[] #[.pointer (some ⟨w.heap.size, 0, none⟩), .pointer (some ⟨D, 0, none⟩), .pointer (some ⟨w.heap.size + 1, 0, none⟩)]] V fun e w' => ∃ b d, e = .returned (.slice b (intsN C).length d) ∧ IRow w' b (intsN C) ∧ Gr V w' := fun D V g hD => by
        have := except_any (inWin off spread fr) l hlen 96 (.pointer (some ⟨w.heap.size, 0, none⟩)) (.pointer (some ⟨D, 0, none⟩)) (.pointer (some ⟨w.heap.size + 1, 0, none⟩)) (some ⟨bl, ol, none⟩) cap V (hl.grow (gg.tr g)) callOdd (fun r W hW hr => oddClosure off spread fr r o0 o1 s0 s1 (by omega) (by omega) (HBB.out r hr).1 (HBB.out r hr).2 _ _ _ W ((b3.keep g).keep hW) (hD.keep hW) ((b5.keep g).keep hW))
        rw [hC'] at this
        exact this
      have hfi := fieldSp1
      have HT := Lib.hid hT
      have HEX := Lib.hid hEX
      have lB := intsN_len B
      have lC := intsN_len C
      rw [← lB, ← lC] at hS
      obtain ⟨nb, hnb⟩ : ∃ nb, (intsN B).length = nb := ⟨_, rfl⟩
      obtain ⟨nc, hnc⟩ : ∃ nc, (intsN C).length = nc := ⟨_, rfl⟩
      rw [hnb, hnc] at hS
      obtain ⟨z, hz⟩ : ∃ z, compL (intsN C) (intsN B) = z := ⟨_, rfl⟩
      rw [hz] at hS
      have hcmp : ∀ W' a5 c5, IRow W' a5 (intsN C) → IRow W' b (intsN B) → Calls Try.prog 97 #[.slice a5 nc c5, .slice b nb c] W' fun e w' => e = .returned (.int .i64 z) ∧ Gr W' w' := fun W' a5 c5 r1 r2 => by
        have := compare_any (intsN C) (intsN B) a5 b c5 c W' r1 r2
        rw [hnc, hnb, hz] at this
        exact this
      have HCMP := Lib.hid hcmp
      clear lB lC hB hC hC' hT hEX hfr hlo hcmp hz hx hgd hmem hrw
      have HNB := Lib.hid hnb
      have HNC := Lib.hid hnc
      rw [hnb]
      clear hnb hnc
      by_cases h0 : k = 0
      · rw [if_pos (.inl h0)] at hS
        have HS := Lib.hid hS
        have e0 : ((k : Int) == 0) = true := by rw [beq_iff_eq]; omega
        clear hS h0
        go_wp2_with (first
          | (go_at_call 94; refine (HT.out _).mono ?_; rintro e w4 ⟨rfl, g4⟩; (have o10 := Box.new w4 [.int .i64 fr] 3 w4.heap.size rfl); have gA := gW.tr (g4.tr (Gr.al w4 (.cells #[.int .i64 fr] 3))))
          | (go_at_call 95; refine (HEX.out w4.heap.size _ gA o10).mono ?_; rintro e w5 ⟨a5, c5, rfl, r5, g5⟩; rw [HNC.out])
          | (go_at_call 97; refine (HCMP.out _ _ _ r5 (hrow.grow (g4.tr ((Gr.al _ _).tr g5)))).mono ?_; rintro e w6 ⟨rfl, g6⟩))
        go_roundw
        case rel => exact Lib.hid ⟨k + 1, a5, c5, by omega, by go_num, by rw [HS.out, HNC.out], gA.tr g5, by rw [HS.out]; exact r5⟩
        case measure => simp [intOf]; omega
      · have e0 : ((k : Int) == 0) = false := by rw [beq_eq_false_iff_ne]; omega
        by_cases h1 : nc < nb
        · rw [if_pos (.inr (.inl h1))] at hS
          have HS := Lib.hid hS
          clear hS
          go_wp2_with (first
            | (go_at_call 94; refine (HT.out _).mono ?_; rintro e w4 ⟨rfl, g4⟩; (have o10 := Box.new w4 [.int .i64 fr] 3 w4.heap.size rfl); have gA := gW.tr (g4.tr (Gr.al w4 (.cells #[.int .i64 fr] 3))))
            | (go_at_call 95; refine (HEX.out w4.heap.size _ gA o10).mono ?_; rintro e w5 ⟨a5, c5, rfl, r5, g5⟩; rw [HNC.out])
            | (go_at_call 97; refine (HCMP.out _ _ _ r5 (hrow.grow (g4.tr ((Gr.al _ _).tr g5)))).mono ?_; rintro e w6 ⟨rfl, g6⟩))
          go_roundw
          case rel => exact Lib.hid ⟨k + 1, a5, c5, by omega, by go_num, by rw [HS.out, HNC.out], gA.tr g5, by rw [HS.out]; exact r5⟩
          case measure => simp [intOf]; omega
        · have h1' : ¬ (nc : Int) < (nb : Int) := by omega
          by_cases h2 : nc = nb
          · have h3 : ((nc : Int) == (nb : Int)) = true := by rw [beq_iff_eq]; omega
            by_cases h4 : z < 0
            · rw [if_pos (.inr (.inr ⟨h2, h4⟩))] at hS
              have HS := Lib.hid hS
              clear hS h2
              go_wp2_with (first
                | (go_at_call 94; refine (HT.out _).mono ?_; rintro e w4 ⟨rfl, g4⟩; (have o10 := Box.new w4 [.int .i64 fr] 3 w4.heap.size rfl); have gA := gW.tr (g4.tr (Gr.al w4 (.cells #[.int .i64 fr] 3))))
                | (go_at_call 95; refine (HEX.out w4.heap.size _ gA o10).mono ?_; rintro e w5 ⟨a5, c5, rfl, r5, g5⟩; rw [HNC.out])
                | (go_at_call 97; refine (HCMP.out _ _ _ r5 (hrow.grow (g4.tr ((Gr.al _ _).tr g5)))).mono ?_; rintro e w6 ⟨rfl, g6⟩))
              go_roundw
              case rel => exact Lib.hid ⟨k + 1, a5, c5, by omega, by go_num, by rw [HS.out, HNC.out], gA.tr (g5.tr g6), by rw [HS.out]; exact r5.grow g6⟩
              case measure => simp [intOf]; omega
            · rw [if_neg (by omega)] at hS
              have HS := Lib.hid hS
              clear hS h2
              go_wp2_with (first
                | (go_at_call 94; refine (HT.out _).mono ?_; rintro e w4 ⟨rfl, g4⟩; (have o10 := Box.new w4 [.int .i64 fr] 3 w4.heap.size rfl); have gA := gW.tr (g4.tr (Gr.al w4 (.cells #[.int .i64 fr] 3))))
                | (go_at_call 95; refine (HEX.out w4.heap.size _ gA o10).mono ?_; rintro e w5 ⟨a5, c5, rfl, r5, g5⟩; rw [HNC.out])
                | (go_at_call 97; refine (HCMP.out _ _ _ r5 (hrow.grow (g4.tr ((Gr.al _ _).tr g5)))).mono ?_; rintro e w6 ⟨rfl, g6⟩))
              go_roundw
              case rel => exact Lib.hid ⟨k + 1, b, c, by omega, by go_num, by rw [HS.out, HNB.out], gA.tr (g5.tr g6), by rw [HS.out]; exact hrow.grow (g4.tr ((Gr.al _ _).tr (g5.tr g6)))⟩
              case measure => simp [intOf]; omega
          · have h3 : ((nc : Int) == (nb : Int)) = false := by rw [beq_eq_false_iff_ne]; omega
            rw [if_neg (by omega)] at hS
            have HS := Lib.hid hS
            clear hS
            go_wp2_with (first
              | (go_at_call 94; refine (HT.out _).mono ?_; rintro e w4 ⟨rfl, g4⟩; (have o10 := Box.new w4 [.int .i64 fr] 3 w4.heap.size rfl); have gA := gW.tr (g4.tr (Gr.al w4 (.cells #[.int .i64 fr] 3))))
              | (go_at_call 95; refine (HEX.out w4.heap.size _ gA o10).mono ?_; rintro e w5 ⟨a5, c5, rfl, r5, g5⟩; rw [HNC.out])
              | (go_at_call 97; refine (HCMP.out _ _ _ r5 (hrow.grow (g4.tr ((Gr.al _ _).tr g5)))).mono ?_; rintro e w6 ⟨rfl, g6⟩))
            go_roundw
            case rel => exact Lib.hid ⟨k + 1, b, c, by omega, by go_num, by rw [HS.out, HNB.out], gA.tr g5, by rw [HS.out]; exact hrow.grow (g4.tr ((Gr.al _ _).tr g5))⟩
            case measure => simp [intOf]; omega
    · obtain rfl : k = l.length := by omega
      have HB := Lib.hid hB
      clear hB
      go_wp2
      go_ret
      exact ⟨b, c, by rw [HB.out]; rfl, by rw [HB.out]; exact hrow, gg.tr gW⟩

/-- Odd of what is valid. -/
theorem oddF_ok (off spread : Int) (l : List Int) (h20 : l.length ≤ 20) (ho : inB 0 1000 [off] = true) (hs : inB 0 100000 [spread] = true) (hl : inB 0 100000 l = true) (a : Option Addr) (cap : Nat) (w : World) (hr : IRow w a l) :
    Calls Try.prog 27 #[.slice a l.length cap, .int .i64 off, .int .i64 spread] w fun e w' => ∃ b d, e = .returned (.tuple #[.slice b (intsN (oddTo off spread l l.length)).length d, .int .i64 0]) ∧ IRow w' b (intsN (oddTo off spread l l.length)) ∧ Gr w w' := by
  have hoo : 0 ≤ off ∧ off ≤ 1000 := by simpa [inB, in1] using ho
  have hss : 0 ≤ spread ∧ spread ≤ 100000 := by simpa [inB, in1] using hs
  have hll : ∀ r ∈ l, 0 ≤ r ∧ r ≤ 100000 := fun r hr => by
    have := List.all_eq_true.1 hl r hr
    simpa [in1] using this
  obtain ⟨R, hR⟩ : ∃ R, oddTo off spread l l.length = R := ⟨_, rfl⟩
  rw [hR]
  have hO : ∀ W, IRow W a l → Calls Try.prog 67 #[.agg #[.int .i64 off], .slice a l.length cap, .int .i64 spread] W fun e w' => ∃ b d, e = .returned (.slice b (intsN R).length d) ∧ IRow w' b (intsN R) ∧ Gr W w' := fun W h => by
    have := odd_any off spread hoo.1 hoo.2 hss.1 hss.2 l (by omega) hll a cap W h
    rw [hR] at this
    exact this
  have HO := Lib.hid hO
  have HL := Lib.hid hl
  have HS := Lib.hid hs
  have HOF := Lib.hid ho
  have d1 : decide (20 < (l.length : Int)) = false := by simp; omega
  have d2 : ¬ (20 : Int) < (l.length : Int) := by omega
  clear hR hO hl hs ho hll hss hoo
  go_enter Try.func27, Try.ntmps27
  go_wp2_with (first
    | (go_at_call 60; refine (goodOff_any off true HOF.out _).mono ?_; rintro e w1 ⟨rfl, g1⟩)
    | (go_at_call 66; refine (within_any 0 100000 [spread] _ HS.out _ _ _ (IRow.new' _ 3 [spread] (by simp) _ (by simp) _ (by simp))).mono ?_; rintro e w3 ⟨rfl, hg⟩; have h3 := g1.tr (Gr.tr (Gr.al _ _) hg))
    | (go_at_call 61; refine (goodReadings_any l true HL.out a cap _ (hr.grow h3)).mono ?_; rintro e w4 ⟨rfl, g4⟩)
    | (go_at_call 67; refine (HO.out _ (hr.grow (h3.tr g4))).mono ?_; rintro e w5 ⟨b, d, rfl, r5, g5⟩))
  go_ret2
  exact ⟨b, d, rfl, r5, (h3.tr g4).tr g5⟩

end Go.Proofs.Ytkfhmfidgdpeiaa
